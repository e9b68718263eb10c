/- The landed parser's reader: its state, and what next, head and pass do. No condition but what each line says. The landed all, over each type of elements that it is called for: whether all of a row are right. No condition but what each line says. -/
import Derived.Test.YtdefgghhkknnpaaGreatDoorE06
set_option linter.unusedVariables false
set_option linter.unusedSimpArgs false
set_option maxRecDepth 100000
set_option maxHeartbeats 40000000
namespace Go.Proofs.YtdefgghhkknnpaaGreatDoor
namespace tr
open ChangeShapes WideShapes ChangeAt RowKit k rr tk
def nameS:Str:=[110,97,109,101]
def numS:Str:=[110,117,109,98,101,114]
def endS:Str:=[101,110,100]
def headS (t:Tk):Str:=if t.kind=1 then nameS else if t.kind=3 then numS else if t.kind=0 then endS else t.text
def SgOk (t:Tk):Prop:=((t.kind=2∨t.kind=4)∧t.text≠nameS∧t.text≠numS∧t.text≠endS)∨t.kind=1∨(t.kind=3∧0≤t.n∧t.n≤9223372036854775807)
def RowOk:Sg→Prop
 | []=>False
 | t::r=>(r=[]∧t.kind=0)∨(SgOk t∧RowOk r)
theorem SgOk.kind {t:Tk} (h:SgOk t):t.kind≠0:=by
 rcases h with ⟨h|h,_⟩|h|⟨h,_⟩<;>omega
theorem RowOk.ne {r:Sg} (h:RowOk r):r≠[]:=by
 rintro rfl;exact h
theorem RowOk.len {r:Sg} (h:RowOk r):0<r.length:=List.length_pos_iff.2 h.ne
theorem RowOk.hd {r:Sg} (h:RowOk r):(tr.hd r).kind=0∨SgOk (tr.hd r):=by
 cases r with
 | nil=>exact h.elim
 | cons t r=>
  rcases h with h|h
  ·exact .inl h.2
  ·exact .inr h.1
theorem RowOk.drop {r:Sg} (h:RowOk r) (hk:(tr.hd r).kind≠0):RowOk (r.drop 1):=by
 cases r with
 | nil=>exact h.elim
 | cons t r=>
  rcases h with h|h
  ·exact absurd h.2 hk
  ·exact h.2
theorem headS_txt {r:Sg} (h:RowOk r) {s:Str} (h1:s≠nameS) (h2:s≠numS) (h3:s≠endS) (h0:s≠[]):headS (tr.hd r)=s↔txt r=s:=by
 cases r with
 | nil=>exact h.elim
 | cons t r=>
  show headS t=s↔(if t.kind=2∨t.kind=4 then t.text else [])=s
  unfold headS;rcases h.imp (fun h=>h.2) (fun h=>h.1) with hk|⟨hk,_⟩|hk|⟨hk,_⟩
  ·rw [if_neg (by omega),if_neg (by omega),if_pos hk,if_neg (by omega)]
   exact ⟨fun h=>absurd h.symm h3,fun h=>absurd h.symm h0⟩
  ·rw [if_neg (by omega),if_neg (by omega),if_neg (by omega),if_pos hk]
  ·rw [if_pos hk,if_neg (by omega)]
   exact ⟨fun h=>absurd h.symm h1,fun h=>absurd h.symm h0⟩
  ·rw [if_neg (by omega),if_pos hk,if_neg (by omega)]
   exact ⟨fun h=>absurd h.symm h2,fun h=>absurd h.symm h0⟩
theorem headS_kind {r:Sg} (h:RowOk r):(headS (tr.hd r)=nameS↔(tr.hd r).kind=1)∧(headS (tr.hd r)=numS↔(tr.hd r).kind=3)∧(headS (tr.hd r)=endS↔(tr.hd r).kind=0):=by
 unfold headS;rcases h.hd with hk|⟨hk,h1,h2,h3⟩|hk|⟨hk,_⟩
 ·simp [hk,nameS,numS,endS]
 ·have h1':(tr.hd r).text≠nameS:=h1
  rcases hk with hk|hk<;>simp [hk,h1,h2,h3]
 ·simp [hk,nameS,numS,endS]
 ·simp [hk,nameS,numS,endS]
def Par (w:World) (g:Nat) (r:Sg) (V:Value) (d:Nat):Prop:=∃ A c,Box w g 0 [.slice A r.length c,V,.int .i64 d]∧Rd tC 5 w g A r.length c r
theorem Par.lt {w:World} {g:Nat} {r:Sg} {V:Value} {d:Nat} (h:Par w g r V d):g<w.heap.size:=by
 obtain ⟨A,c,h,_⟩:=h;exact lt_of_cell h.1
theorem rd_gr {α:Type} {enc:α→List Value} {z B n c q:Nat} {A:Option Addr} {w w':World} {L:List α} (h:Rd enc z w B A n c L) (hg:w.grownBy w' (some q)) (hB:B≤q) (hw:B≤w.heap.size):Rd enc z w' B A n c L:=
 h.below ⟨hg.os,hg.tape,hg.output,hg.size,fun k hk=>hg.block k (by omega) (fun e=>by injection e with e;omega)⟩
theorem rd_tail {t:Tk} {r:Sg} {w:World} {B b off c:Nat} (h:Rd tC 5 w B (some ⟨b,off,none⟩) (t::r).length c (t::r)):Rd tC 5 w B (some ⟨b,off+5,none⟩) r.length (c-1) r:=by
 have hl:(t::r).length=r.length+1:=rfl;have h2:=h.2.1;refine ⟨rfl,by omega,by have:=h.2.2.1;unfold maxLen at *;omega,(fun h=>by cases h),fun hn=>?_⟩;obtain ⟨b',off',e,hb,hc⟩:=h.2.2.2.2 (by omega);injection e with e
 injection e with e1 e2 e3
 subst e1 e2;exact ⟨b,off+5,rfl,hb,fun i x hx=>by
  have:=hc (i+1) x (by simpa using hx);rwa [show off+(i+1)*5=off+5+i*5 by omega] at this⟩
theorem Par.gr {w w':World} {g q d:Nat} {r:Sg} {V:Value} (h:Par w g r V d) (hg:w.grownBy w' (some q)) (hq:g<q):Par w' g r V d:=by
 have hlt:=h.lt;obtain ⟨A,c,h1,h2⟩:=h;exact ⟨A,c,gr_box hg hlt (by omega) h1,rd_gr h2 hg (by omega) (by omega)⟩
theorem Par.below {w w':World} {g d B:Nat} {r:Sg} {V:Value} (h:Par w g r V d) (hb:Below B w w') (hB:g<B):Par w' g r V d:=by
 obtain ⟨A,c,h1,h2⟩:=h;exact ⟨A,c,h1.below hb hB,h2.below (hb.mono (by omega))⟩
theorem gr_puts {g:Nat}:∀ (us:List Value) (o:Nat) (w:World),w.grownBy (k.puts w g o us) (some g)
 | [],_,w=>gr_refl w _
 | u::us,o,w=>gr_trans (gr_set w g o u) (gr_puts us (o+1) _)
section
variable {P:Program} {ops:Array Oper} {rest:List Oper} {op:Oper} {a:Act} {w:World} {Q:Exit→Act→World→Prop}
theorem m_store {g:Nat} {vs:List Value} (hb:k.Box w g 0 vs) (T:TypeId) (t u:Nat) (ho:op.op=.store T (.tmp t) (.tmp u)) (hg:op.guard=none) (hd:op.dst=none) (cs:List Value) (hx:a.eval (.tmp t)=.pointer (some ⟨g,0,none⟩)) (hy:a.eval (.tmp u)=.agg cs.toArray)
  (hl:cs.length=vs.length) (hi:(P.info? T).map (·.size)=some cs.length) (h1:∀ v∈cs,v.oneCell'=true)
  (h:∀ w',k.Box w' g 0 cs→w.grownBy w' (some g)→w'.heap.size=w.heap.size→wpList P ops Q rest a w'):wpList P ops Q (op::rest) a w:=by
 obtain ⟨W,e,hW,hs,_,_⟩:=k.stored (us:=cs) hb hl;refine wpList_store_mid hg T (.tmp t) (.tmp u) ho g 0 cs.toArray hx hy (by rw [List.size_toArray,hl];exact hb.there) (by rw [List.size_toArray];exact hi) (all_oneCell_toArray h1) ?_;rw [hd]
 show wpList _ _ _ _ a (World.setCells _ _ _ cs)
 have hgr:w.grownBy (w.setCells g 0 cs) (some g):=by rw [k.setCells_puts];exact gr_puts cs 0 w
 rw [e] at hgr ⊢;exact h W hW hgr hs
theorem m_new {Z:Array Value} (T:TypeId) (t u:Nat) (ho:op.op=.store T (.tmp t) (.tmp u)) (hg:op.guard=none) (hd:op.dst=none) (cs:List Value) (hx:a.eval (.tmp t)=.pointer (some ⟨w.heap.size,0,none⟩)) (hy:a.eval (.tmp u)=.agg cs.toArray)
  (hl:cs.length=Z.toList.length) (hi:(P.info? T).map (·.size)=some cs.length) (h1:∀ v∈cs,v.oneCell'=true)
  (h:∀ w',k.Box w' w.heap.size 0 cs→Below w.heap.size w w'→w'.heap.size=w.heap.size+1→wpList P ops Q rest a w'):wpList P ops Q (op::rest) a (w.alloc (.cells Z T)):=by
 have hs:(w.alloc (.cells Z T)).heap.size=w.heap.size+1:=by simp
 refine m_store (k.Box.new w Z T) T t u ho hg hd cs hx hy hl hi h1 fun w' hb hg2 hs2=>h w' hb ?_ (hs2.trans hs)
 exact ((Below.refl w.heap.size w).alloc (Nat.le_refl _) _).trans (gr_below hg2 (Nat.le_refl _) (by omega))
theorem m_load {g:Nat} {cs:List Value} (hb:k.Box w g 0 cs) (T:TypeId) (t:Nat) (ho:op.op=.load T (.tmp t)) (hw:Region.wanted op (yielded ops a.tmps)=true) (hx:a.eval (.tmp t)=.pointer (some ⟨g,0,none⟩))
  (hu:(P.underlying T).map (·.isRow)=some true) (hi:(P.info? T).map (·.size)=some cs.length)
  (h:wpList P ops Q rest (a.put op.dst (.agg cs.toArray)) w):wpList P ops Q (op::rest) a w:=by
 obtain ⟨d,hd,hr⟩:=Option.map_eq_some_iff.1 hu;exact k.load_wanted hw T (.tmp t) ho g 0 hx cs d hb.range hd hr hi h
theorem m_loadR {b o:Nat} {cs:List Value} (hb:w.rangeAt b o cs) (T:TypeId) (t:Nat) (ho:op.op=.load T (.tmp t)) (hw:Region.wanted op (yielded ops a.tmps)=true) (hx:a.eval (.tmp t)=.pointer (some ⟨b,o,none⟩))
  (hu:(P.underlying T).map (·.isRow)=some true) (hi:(P.info? T).map (·.size)=some cs.length)
  (h:wpList P ops Q rest (a.put op.dst (.agg cs.toArray)) w):wpList P ops Q (op::rest) a w:=by
 obtain ⟨d,hd,hr⟩:=Option.map_eq_some_iff.1 hu;exact k.load_wanted hw T (.tmp t) ho b o hx cs d hb hd hr hi h
end
theorem next_any {r:Sg} {V:Value} {d g:Nat} {w:World} (hP:Par w g r V d) (hr:RowOk r):Calls Tryz.prog 74 #[.pointer (some ⟨g,0,none⟩)] w fun e w'=>e=.returned (.agg (tC (hd r)).toArray)∧Below w.heap.size w w':=by
 have hlt:=hP.lt;have hP4:=hP.below ((Below.refl w.heap.size w).alloc (Nat.le_refl _) (.cells #[.int .i64 0,.string ⟨#[]⟩,.int .i64 0,.int .i64 0,.int .i64 0] 34)) hlt;have x4:=Box.new w #[.int .i64 0,.string ⟨#[]⟩,.int .i64 0,.int .i64 0,.int .i64 0] 34;have hb4:=(Below.refl w.heap.size w).alloc (Nat.le_refl _) (.cells #[.int .i64 0,.string ⟨#[]⟩,.int .i64 0,.int .i64 0,.int .i64 0] 34);have X4:=qh x4;have B4:=qh hb4;clear x4 hb4;cases r with
 | nil=>exact hr.elim
 | cons t r=>
 obtain ⟨A,c,hB,hR⟩:=hP4;obtain ⟨b,off,y,rfl,hb,hy,hc⟩:=hR.at (i:=0) (by simp);obtain rfl:t=y:=by simpa using hy
 rw [Nat.zero_mul,Nat.add_zero] at hc;have hl0:(0:Int)<((t::r).length:Nat):=by simp
 have HC:=qh hc;have HB:=qh hB;clear hR hc hb hy hP hB;generalize (t::r).length=n at *
 show Calls _ _ _ _ fun e w'=>e=.returned (.agg (tC t).toArray)∧_
 go_enter Tryz.func74,Tryz.ntmps74
 go_upto_region 1 with (fail)
 generalize w.alloc (.cells #[.int .i64 0,.string ⟨#[]⟩,.int .i64 0,.int .i64 0,.int .i64 0] 34)=w4 at *;have ⟨a0,k0,a1,k1,a2,k2,_⟩:=HB.out;go_wp2_with (first|((with_reducible refine m_loadR HC.out 34 7 ?_ ?_ ?_ ?_ ?_ ?_);rfl;rfl;rfl;rfl;kernel_rfl)|((with_reducible refine m_store X4.out 34 2 8 ?_ ?_ ?_ (tC t) ?_ ?_ ?_ ?_ (tC_one t) ?_);rfl;rfl;rfl;rfl;rfl;rfl;kernel_rfl;intro w5 hb5 hg5 hs5))
 refine bodyPost_ret (k.results_cell rfl rfl (run_loadVar_mid _ w.heap.size 0 34 _ _ hb5.range rfl rfl (by kernel_rfl))) rfl ?_;exact ⟨rfl,B4.out.trans (gr_below hg5 (Nat.le_refl _) B4.out.size)⟩
theorem tok_f0 (t:Tk) (w:World):(Instr.field 34 (.agg (tC t).toArray) 0).run Tryz.prog w=.ok (.int .i64 t.kind) w:=by kernel_rfl
theorem tok_f1 (t:Tk) (w:World):(Instr.field 34 (.agg (tC t).toArray) 1).run Tryz.prog w=.ok (.string ⟨t.text.toArray⟩) w:=by kernel_rfl
theorem tok_f2 (t:Tk) (w:World):(Instr.field 34 (.agg (tC t).toArray) 2).run Tryz.prog w=.ok (.int .i64 t.n) w:=by kernel_rfl
theorem tok_f3 (t:Tk) (w:World):(Instr.field 34 (.agg (tC t).toArray) 3).run Tryz.prog w=.ok (.int .i64 t.line) w:=by kernel_rfl
theorem sv_eq (a b:Str):((⟨a.toArray⟩:ByteArray).toList==(⟨b.toArray⟩:ByteArray).toList)=(a==b):=by rw [ByteArray.toList_eq,ByteArray.toList_eq]
theorem head_any {r:Sg} {V:Value} {d g:Nat} {w:World} (hP:Par w g r V d) (hr:RowOk r):Calls Tryz.prog 72 #[.pointer (some ⟨g,0,none⟩)] w fun e w'=>e=.returned (sv (headS (hd r)))∧Below w.heap.size w w':=by
 have NX:=qh fun W (h:Par W g r V d)=>next_any h hr
 have HP:=qh hP;have hlt:=hP.lt;have f0:=tok_f0 (hd r);have f1:=tok_f1 (hd r);obtain ⟨u1,hu1⟩:∃ u,((hd r).kind==1)=u:=⟨_,rfl⟩;obtain ⟨u3,hu3⟩:∃ u,((hd r).kind==3)=u:=⟨_,rfl⟩;obtain ⟨u0,hu0⟩:∃ u,((hd r).kind==0)=u:=⟨_,rfl⟩;have HS:Hid (headS (hd r)=if u1=true then nameS else if u3=true then numS else if u0=true then endS else (hd r).text):=by
  refine qh ?_;unfold headS;subst hu1 hu3 hu0;simp only [beq_iff_eq]
 clear hP;go_enter Tryz.func72,Tryz.ntmps72
 go_wp2_with (go_at_call 74;fail)
 refine (NX.out _ HP.out).mono ?_;rintro e w1 ⟨rfl,hb⟩;have HP1:=qh (HP.out.below hb hlt);have B1:=qh hb;clear hb;cases u1
 ·cases u3
  ·cases u0
   ·go_wp2_with (go_at_call 74;fail)
    refine (NX.out _ HP1.out).mono ?_;rintro e w2 ⟨rfl,hb⟩;go_wp2_with fail
    go_ret
    exact ⟨by rw [HS.out];rfl,B1.out.trans (hb.mono B1.out.size)⟩
   ·go_wp2_with (go_at_call 74;fail)
    go_ret
    exact ⟨by rw [HS.out];rfl,B1.out⟩
  ·go_wp2_with (go_at_call 74;fail)
   go_ret
   exact ⟨by rw [HS.out];rfl,B1.out⟩
 ·go_wp2_with (go_at_call 74;fail)
  go_ret
  exact ⟨by rw [HS.out];rfl,B1.out⟩
def mis (n:Int) (t:Tk):Value:=.iface 69 (.agg #[.int .i64 n,.int .i64 0,.string ⟨#[]⟩,.int .i64 0,.int .i64 t.line,.int .i64 t.col])
theorem fail_any (n:Int) (t:Tk) (w:World):Calls Tryz.prog 73 #[.int .i64 n,.agg (tC t).toArray] w fun e w'=>e=.panicked [{v:=mis n t,recovered:=false}]∧Below w.heap.size w w':=by
 obtain ⟨kd,tx,nn,ln,cl⟩:=t
 show Calls _ _ #[.int .i64 n,.agg #[.int .i64 kd,.string ⟨tx.toArray⟩,.int .i64 nn,.int .i64 ln,.int .i64 cl]] _ fun e w'=>e=.panicked [{v:=.iface 69 (.agg #[.int .i64 n,.int .i64 0,.string ⟨#[]⟩,.int .i64 0,.int .i64 ln,.int .i64 cl]),recovered:=false}]∧_
 generalize (⟨tx.toArray⟩:ByteArray)=X;go_enter Tryz.func73,Tryz.ntmps73
 go_wp2_with fail
 exact ⟨rfl,rfl,(Below.refl _ _).alloc (Nat.le_refl _) _⟩
theorem pass_any {r:Sg} {V:Value} {d g:Nat} {w:World} (hP:Par w g r V d) (hr:RowOk r):Calls Tryz.prog 75 #[.pointer (some ⟨g,0,none⟩)] w fun e w'=>e=.returned (.agg (tC (hd r)).toArray)∧Par w' g (r.drop 1) V d∧w.grownBy w' (some g):=by
 have NX:=qh fun W (h:Par W g r V d)=>next_any h hr
 have HP:=qh hP;have hlt:=hP.lt;clear hP;go_enter Tryz.func75,Tryz.ntmps75
 have x4:=Box.new w #[.int .i64 0,.string ⟨#[]⟩,.int .i64 0,.int .i64 0,.int .i64 0] 34;have hb4:=(Below.refl w.heap.size w).alloc (Nat.le_refl _) (.cells #[.int .i64 0,.string ⟨#[]⟩,.int .i64 0,.int .i64 0,.int .i64 0] 34);have hz4:(w.alloc (.cells #[.int .i64 0,.string ⟨#[]⟩,.int .i64 0,.int .i64 0,.int .i64 0] 34)).heap.size=w.heap.size+1:=by simp
 have X4:=qh x4;have B4:=qh hb4;have Z4:=qh hz4;have P4:=qh (HP.out.below hb4 hlt);clear x4 hb4 hz4;go_upto_region 1 with (fail)
 generalize w.alloc (.cells #[.int .i64 0,.string ⟨#[]⟩,.int .i64 0,.int .i64 0,.int .i64 0] 34)=w4 at *;go_wp2_with (go_at_call 74;fail)
 refine (NX.out _ P4.out).mono ?_;rintro e w5 ⟨rfl,hb⟩;have X5:=qh (X4.out.below hb (by have:=Z4.out;omega));have B5:=btr B4 hb;have P5:=qh (P4.out.below hb (by have:=Z4.out;omega));have S5:=qh (show w.heap.size<w5.heap.size from Nat.lt_of_lt_of_le (by have:=Z4.out;omega) hb.size);clear hb;go_upto_region 2 with ((with_reducible refine m_new 34 3 5 ?_ ?_ ?_ (tC (hd r)) ?_ ?_ ?_ ?_ (tC_one _) ?_);rfl;rfl;rfl;rfl;rfl;rfl;kernel_rfl;intro w6 hx6 hb6 hz6)
 have X6:=qh (X5.out.below hb6 S5.out);have Y6:=qh hx6;have B6:=btr B5 hb6;have P6:=P5.out.below hb6 (by have:=S5.out;omega);clear hb6 hx6;cases r with
 | nil=>exact hr.elim
 | cons t r=>
 obtain ⟨A,c,hB,hR⟩:=P6;obtain ⟨b,off,y,rfl,hb,hy,hc⟩:=hR.at (i:=0) (by simp);have hcap:=hR.2.1;have hmax:=hR.2.2.1;have ⟨a0,k0,a1,k1,a2,k2,_⟩:=hB;have q1:(1:Int)≤c:=by simp at hcap;omega
 obtain ⟨n,hn⟩:∃ n,(t::r).length=n+1:=⟨r.length,rfl⟩;rw [hn] at a0;have hmax':c≤9223372036854775807:=by unfold maxLen at hmax;omega
 rw [hn] at hcap;have hrn:r.length=n:=by simpa using hn
 have hbel:∀ v,Below g w6 (w6.setCell ⟨g,0,none⟩ v):=fun v=>below1 g w6 0 v
 by_cases hc1:c=1
 ·subst hc1
  have hn0:n=0:=by omega
  subst hn0;have hr0:r=[]:=List.eq_nil_of_length_eq_zero hrn;go_upto_region 3 with (fail)
  have g7:=gr_set w6 g 0 (.slice (some ⟨b,off,none⟩) 0 0);have P7:=qh (show Par (w6.setCell ⟨g,0,none⟩ (.slice (some ⟨b,off,none⟩) 0 0)) g r V d from ⟨_,_,by rw [show r.length=0 from hrn];exact hB.put 0 (by simp) _,by subst hr0;exact ⟨rfl,Nat.le_refl _,by unfold maxLen;omega,(fun h=>by cases h),fun h=>absurd h (by simp)⟩⟩);have X7:=qh (Box_aside (show g≠w.heap.size by omega) (i:=0) (.slice (some ⟨b,off,none⟩) 0 0) X6.out);have Y7:=qh (Box_aside (show g≠w5.heap.size by have:=S5.out;omega) (i:=0) (.slice (some ⟨b,off,none⟩) 0 0) Y6.out);have G7:=qh (gr_trans (gr_of B6.out) g7);clear g7 hB hR X6 Y6 a0 k0 a1 k1 a2 k2 hc hy P5 X5;generalize w6.setCell ⟨g,0,none⟩ (.slice (some ⟨b,off,none⟩) 0 0)=w7 at *;go_wp2_with (first|((with_reducible refine m_load Y7.out 34 3 ?_ ?_ ?_ ?_ ?_ ?_);rfl;rfl;rfl;rfl;kernel_rfl)|((with_reducible refine m_store X7.out 34 2 14 ?_ ?_ ?_ (tC (hd (t::r))) ?_ ?_ ?_ ?_ (tC_one _) ?_);rfl;rfl;rfl;rfl;rfl;rfl;kernel_rfl;intro w8 hb8 hg8 hs8))
  refine bodyPost_ret (k.results_cell rfl rfl (run_loadVar_mid _ w.heap.size 0 34 _ _ hb8.range rfl rfl (by kernel_rfl))) rfl ?_;exact ⟨rfl,P7.out.gr hg8 hlt,gr_then G7.out (gr_below hg8 (Nat.le_refl _) G7.out.size)⟩
 ·have hq1:¬ (c:Int)=1:=by omega
  go_upto_region 3 with (fail)
  have g7:=gr_set w6 g 0 (.slice (some ⟨b,off+5,none⟩) n (c-1));have P7:=qh (show Par (w6.setCell ⟨g,0,none⟩ (.slice (some ⟨b,off+5,none⟩) n (c-1))) g r V d from ⟨_,_,by rw [show r.length=n from hrn];exact hB.put 0 (by simp) _,(rd_tail hR).below (hbel _)⟩);have X7:=qh (Box_aside (show g≠w.heap.size by omega) (i:=0) (.slice (some ⟨b,off+5,none⟩) n (c-1)) X6.out);have Y7:=qh (Box_aside (show g≠w5.heap.size by have:=S5.out;omega) (i:=0) (.slice (some ⟨b,off+5,none⟩) n (c-1)) Y6.out);have G7:=qh (gr_trans (gr_of B6.out) g7);clear g7 hB hR X6 Y6 a0 k0 a1 k1 a2 k2 hc hy P5 X5;generalize w6.setCell ⟨g,0,none⟩ (.slice (some ⟨b,off+5,none⟩) n (c-1))=w7 at *;go_wp2_with (first|((with_reducible refine m_load Y7.out 34 3 ?_ ?_ ?_ ?_ ?_ ?_);rfl;rfl;rfl;rfl;kernel_rfl)|((with_reducible refine m_store X7.out 34 2 14 ?_ ?_ ?_ (tC (hd (t::r))) ?_ ?_ ?_ ?_ (tC_one _) ?_);rfl;rfl;rfl;rfl;rfl;rfl;kernel_rfl;intro w8 hb8 hg8 hs8))
  refine bodyPost_ret (k.results_cell rfl rfl (run_loadVar_mid _ w.heap.size 0 34 _ _ hb8.range rfl rfl (by kernel_rfl))) rfl ?_;exact ⟨rfl,P7.out.gr hg8 hlt,gr_then G7.out (gr_below hg8 (Nat.le_refl _) G7.out.size)⟩
section
variable {r:Sg} {V:Value} {d g:Nat} {w:World}
theorem take_yes (hP:Par w g r V d) (hr:RowOk r) {s:Str} (h:headS (hd r)=s) (hk:(hd r).kind≠0):Calls Tryz.prog 76 #[.pointer (some ⟨g,0,none⟩),sv s] w fun e w'=>e=.returned (.bool true)∧Par w' g (r.drop 1) V d∧w.grownBy w' (some g):=by
 have HA:=qh fun W (h:Par W g r V d)=>tr.head_any h hr
 have PA:=qh fun W (h:Par W g r V d)=>tr.pass_any h hr
 have HP:=qh hP;have hlt:=hP.lt;have hq:=sv_eq (headS (hd r)) s;rw [beq_iff_eq.2 h] at hq;unfold sv at *;clear hP;generalize (⟨(headS (hd r)).toArray⟩:ByteArray)=X at *;generalize (⟨s.toArray⟩:ByteArray)=Y at *;go_enter Tryz.func76,Tryz.ntmps76
 go_wp2_with (go_at_call 72;fail)
 refine (HA.out _ HP.out).mono ?_;rintro e w1 ⟨rfl,hb⟩;have P1:=qh (HP.out.below hb hlt);have B1:=qh hb;clear hb;go_wp2_with (go_at_call 75;fail)
 refine (PA.out _ P1.out).mono ?_;rintro e w2 ⟨rfl,hp,hg⟩;go_wp2;go_ret
 exact ⟨rfl,hp,gr_trans (gr_of B1.out) hg⟩
theorem take_no (hP:Par w g r V d) (hr:RowOk r) {s:Str} (h:headS (hd r)≠s):Calls Tryz.prog 76 #[.pointer (some ⟨g,0,none⟩),sv s] w fun e w'=>e=.returned (.bool false)∧Below w.heap.size w w':=by
 have HA:=qh fun W (h:Par W g r V d)=>tr.head_any h hr
 have HP:=qh hP;have hq:=sv_eq (headS (hd r)) s;rw [beq_eq_false_iff_ne.2 h] at hq;unfold sv at *;clear hP;generalize (⟨(headS (hd r)).toArray⟩:ByteArray)=X at *;generalize (⟨s.toArray⟩:ByteArray)=Y at *;go_enter Tryz.func76,Tryz.ntmps76
 go_wp2_with (go_at_call 72;fail)
 refine (HA.out _ HP.out).mono ?_;rintro e w1 ⟨rfl,hb⟩;go_wp2;go_ret
 exact ⟨rfl,hb⟩
theorem need_yes (hP:Par w g r V d) (hr:RowOk r) {s:Str} (h:headS (hd r)=s):Calls Tryz.prog 47 #[.pointer (some ⟨g,0,none⟩),sv s] w fun e w'=>e=.returned (.agg (tC (hd r)).toArray)∧Par w' g (r.drop 1) V d∧w.grownBy w' (some g):=by
 have HA:=qh fun W (h:Par W g r V d)=>tr.head_any h hr
 have PA:=qh fun W (h:Par W g r V d)=>tr.pass_any h hr
 have HP:=qh hP;have hlt:=hP.lt;have hq:=sv_eq (headS (hd r)) s;rw [beq_iff_eq.2 h] at hq;unfold sv at *;clear hP;generalize (⟨(headS (hd r)).toArray⟩:ByteArray)=X at *;generalize (⟨s.toArray⟩:ByteArray)=Y at *;have x4:=Box.new w #[.int .i64 0,.string ⟨#[]⟩,.int .i64 0,.int .i64 0,.int .i64 0] 34;have hb4:=(Below.refl w.heap.size w).alloc (Nat.le_refl _) (.cells #[.int .i64 0,.string ⟨#[]⟩,.int .i64 0,.int .i64 0,.int .i64 0] 34);have hz4:(w.alloc (.cells #[.int .i64 0,.string ⟨#[]⟩,.int .i64 0,.int .i64 0,.int .i64 0] 34)).heap.size=w.heap.size+1:=by simp
 have X4:=qh x4;have B4:=qh hb4;have Z4:=qh hz4;have P4:=qh (HP.out.below hb4 hlt);clear x4 hb4 hz4;go_enter Tryz.func47,Tryz.ntmps47
 go_upto_region 1 with (fail)
 generalize w.alloc (.cells #[.int .i64 0,.string ⟨#[]⟩,.int .i64 0,.int .i64 0,.int .i64 0] 34)=w4 at *;go_wp2_with (go_at_call 72;fail)
 refine (HA.out _ P4.out).mono ?_;rintro e w5 ⟨rfl,hb⟩;have X5:=qh (X4.out.below hb (by have:=Z4.out;omega));have B5:=btr B4 hb;have P5:=qh (P4.out.below hb (by have:=Z4.out;omega));have S5:=qh (show w.heap.size<w5.heap.size from Nat.lt_of_lt_of_le (by have:=Z4.out;omega) hb.size);clear hb;go_wp2_with (go_at_call 75;fail)
 refine (PA.out _ P5.out).mono ?_;rintro e w6 ⟨rfl,hp,hg⟩;have X6:=qh (gr_box hg S5.out (by omega) X5.out);have G6:=qh (gr_trans (gr_of B5.out) hg);have P6:=qh hp;clear hp hg;go_wp2_with ((with_reducible refine m_store X6.out 34 4 13 ?_ ?_ ?_ (tC (hd r)) ?_ ?_ ?_ ?_ (tC_one _) ?_);rfl;rfl;rfl;rfl;rfl;rfl;kernel_rfl;intro w7 hb7 hg7 hs7)
 refine bodyPost_ret (k.results_cell rfl rfl (run_loadVar_mid _ w.heap.size 0 34 _ _ hb7.range rfl rfl (by kernel_rfl))) rfl ?_;exact ⟨rfl,P6.out.gr hg7 hlt,gr_then G6.out (gr_below hg7 (Nat.le_refl _) G6.out.size)⟩
theorem need_no (hP:Par w g r V d) (hr:RowOk r) {s:Str} (h:headS (hd r)≠s):Calls Tryz.prog 47 #[.pointer (some ⟨g,0,none⟩),sv s] w fun e w'=>e=.panicked [{v:=mis 5 (hd r),recovered:=false}]∧Below w.heap.size w w':=by
 have HA:=qh fun W (h:Par W g r V d)=>tr.head_any h hr
 have NX:=qh fun W (h:Par W g r V d)=>tr.next_any h hr
 have FA:=qh fun W=>tr.fail_any 5 (hd r) W
 have HP:=qh hP;have hlt:=hP.lt;have hq:=sv_eq (headS (hd r)) s;rw [beq_eq_false_iff_ne.2 h] at hq;unfold sv at *;clear hP;generalize (⟨(headS (hd r)).toArray⟩:ByteArray)=X at *;generalize (⟨s.toArray⟩:ByteArray)=Y at *;have hb4:=(Below.refl w.heap.size w).alloc (Nat.le_refl _) (.cells #[.int .i64 0,.string ⟨#[]⟩,.int .i64 0,.int .i64 0,.int .i64 0] 34);have B4:=qh hb4;have P4:=qh (HP.out.below hb4 hlt);clear hb4;go_enter Tryz.func47,Tryz.ntmps47
 go_upto_region 1 with (fail)
 generalize w.alloc (.cells #[.int .i64 0,.string ⟨#[]⟩,.int .i64 0,.int .i64 0,.int .i64 0] 34)=w4 at *;go_wp2_with (go_at_call 72;fail)
 refine (HA.out _ P4.out).mono ?_;rintro e w5 ⟨rfl,hb⟩;have B5:=btr B4 hb;have P5:=qh (P4.out.below hb (Nat.lt_of_lt_of_le hlt B4.out.size));clear hb;go_wp2_with (go_at_call 74;fail)
 refine (NX.out _ P5.out).mono ?_;rintro e w6 ⟨rfl,hb⟩;have B6:=btr B5 hb;clear hb;go_wp2_with (go_at_call 73;fail)
 refine (FA.out _).mono ?_;rintro e w7 ⟨rfl,hb⟩;go_wp2;exact ⟨rfl,rfl,B6.out.trans (hb.mono B6.out.size)⟩
theorem enter_yes (hP:Par w g r V d) (hd:d<32):Calls Tryz.prog 116 #[.pointer (some ⟨g,0,none⟩)] w fun e w'=>e=.returned (.tuple #[])∧Par w' g r V (d+1)∧w.grownBy w' (some g):=by
 obtain ⟨A,c,hB,hR⟩:=hP;have hlt:=lt_of_cell hB.1;have HB:=qh hB;have HR:=qh hR;have ⟨a0,k0,a1,k1,a2,k2,_⟩:=hB;have h1:¬ ((d:Int)=32):=by omega
 have h2:((d:Int)==32)=false:=by rw [beq_eq_false_iff_ne];omega
 have h3:IntKind.i64.wrap ((d:Int)+1)=((d+1:Nat):Int):=by rw [IntKind.wrap_i64];omega
 clear hB hR;go_enter Tryz.func116,Tryz.ntmps116
 go_wp2;refine end0 rfl rfl ?_;exact ⟨rfl,⟨A,c,HB.out.put 2 (by simp) _,HR.out.below (below1 g w 2 _)⟩,gr_set w g 2 _⟩
theorem enter_no (hP:Par w g r V d) (hr:RowOk r) (hd:d=32):Calls Tryz.prog 116 #[.pointer (some ⟨g,0,none⟩)] w fun e w'=>e=.panicked [{v:=mis 13 (tr.hd r),recovered:=false}]∧Below w.heap.size w w':=by
 have NX:=qh fun W (h:Par W g r V d)=>tr.next_any h hr
 have FA:=qh fun W=>tr.fail_any 13 (tr.hd r) W
 have HP:=qh hP;obtain ⟨A,c,hB,hR⟩:=hP;subst hd;have ⟨a0,k0,a1,k1,a2,k2,_⟩:=hB;clear hB hR;go_enter Tryz.func116,Tryz.ntmps116
 go_wp2_with (go_at_call 74;fail)
 refine (NX.out _ HP.out).mono ?_;rintro e w6 ⟨rfl,hb⟩;have B6:=qh hb;clear hb;go_wp2_with (go_at_call 73;fail)
 refine (FA.out _).mono ?_;rintro e w7 ⟨rfl,hb⟩;go_wp2;exact ⟨rfl,rfl,B6.out.trans (hb.mono B6.out.size)⟩
theorem leave_any (hP:Par w g r V (d+1)) (hd:d<32):Calls Tryz.prog 118 #[.pointer (some ⟨g,0,none⟩)] w fun e w'=>e=.returned (.tuple #[])∧Par w' g r V d∧w.grownBy w' (some g):=by
 obtain ⟨A,c,hB,hR⟩:=hP;have HB:=qh hB;have HR:=qh hR;have ⟨a0,k0,a1,k1,a2,k2,_⟩:=hB;have h3:IntKind.i64.wrap (((d+1:Nat):Int)-1)=(d:Int):=by rw [IntKind.wrap_i64];omega
 clear hB hR;go_enter Tryz.func118,Tryz.ntmps118
 go_wp2;refine end0 rfl rfl ?_;exact ⟨rfl,⟨A,c,HB.out.put 2 (by simp) _,HR.out.below (below1 g w 2 _)⟩,gr_set w g 2 _⟩
end
def Nw (a b q:Nat):Prop:=a≤q∧q<b
def GotE (x:Ex) (w w':World) (v:Value):Prop:=∃ h:EH,v=.agg (eC h).toArray∧ExB w' (Nw w.heap.size w'.heap.size) x h
def Gv {α:Type} (g:Nat) (V:Value) (d:Nat) (w:World) (G:α→World→World→Value→Prop) (p:Res α) (e:Ending) (w':World):Prop:=match p with
 | .ok x r=>(∃ v,e=.returned v∧G x w w' v)∧Par w' g r V d∧RowOk r∧w.grownBy w' (some g)
 | .bad n t=>e=.panicked [{v:=mis n t,recovered:=false}]∧w.grownBy w' (some g)
theorem Gv.badOf {α:Type} {g:Nat} {V:Value} {d:Nat} {w w':World} {G:α→World→World→Value→Prop} {p:Res α} {n:Int} {t:Tk} (hp:p=.bad n t) (hg:w.grownBy w' (some g)):Gv g V d w G p (.panicked [{v:=mis n t,recovered:=false}]) w':=by
 subst hp;exact ⟨rfl,hg⟩
theorem Gv.okOf {α:Type} {g:Nat} {V:Value} {d:Nat} {w w':World} {G:α→World→World→Value→Prop} {p:Res α} {x:α} {r:Sg} {v:Value} (hp:p=.ok x r) (hG:G x w w' v) (hP:Par w' g r V d) (hr:RowOk r) (hg:w.grownBy w' (some g)):Gv g V d w G p (.returned v) w':=by
 subst hp;exact ⟨⟨v,rfl,hG⟩,hP,hr,hg⟩
theorem bind_okE {α β:Type} (x:α) (r:Sg) (f:α→Sg→Res β):(Res.ok x r).bind f=f x r:=rfl
theorem need_okE {s:Str} {r:Sg} (h:txt r=s):need s r=.ok () (r.drop 1):=if_pos h
theorem need_badE {s:Str} {r:Sg} (h:txt r≠s):need s r=.bad 5 (hd r):=if_neg h
theorem want_okE {k:Int} {r:Sg} (h:(hd r).kind=k):want k r=.ok (hd r) (r.drop 1):=if_pos h
theorem want_badE {k:Int} {r:Sg} (h:(hd r).kind≠k):want k r=.bad 5 (hd r):=if_neg h
theorem kept_nw {w w':World} {q a b a' b':Nat} (hg:w.grownBy w' (some q)) (h1:q<a∨b≤q) (h2:b≤w.heap.size) (h3:a'≤a) (h4:b≤b'):Kept w w' (Nw a b) (Nw a' b'):=
 Kept.grown hg fun k hk=>⟨by have:=hk.2;omega,fun e=>by injection e with e;have:=hk.1;have:=hk.2;omega,by have:=hk.1;omega,by have:=hk.2;omega⟩
theorem more_nw {w:World} {a b a' b':Nat} (h3:a'≤a) (h4:b≤b'):Kept w w (Nw a b) (Nw a' b'):=Kept.more fun k hk=>⟨by have:=hk.1;omega,by have:=hk.2;omega⟩
def Nx (a b c q:Nat):Prop:=a≤q∧q<b∧q≠c
theorem kept_nx {w w':World} {q a b c:Nat} (hg:w.grownBy w' (some q)) (h1:q<a∨b≤q∨q=c) (h2:b≤w.heap.size):Kept w w' (Nx a b c) (Nx a b c):=
 Kept.grown hg fun k hk=>⟨by have:=hk.2.1;omega,fun e=>by injection e with e;have:=hk.1;have:=hk.2.1;have:=hk.2.2;omega,hk⟩
theorem more_nx {w:World} {a b c a' b':Nat} (h3:a'≤a) (h4:b≤b'):Kept w w (Nx a b c) (Nw a' b'):=Kept.more fun k hk=>⟨by have:=hk.1;omega,by have:=hk.2.1;omega⟩
theorem nx_nx {w:World} {a b c a' b':Nat} (h3:a'≤a) (h4:b≤b'):Kept w w (Nx a b c) (Nx a' b' c):=Kept.more fun k hk=>⟨by have:=hk.1;omega,by have:=hk.2.1;omega,hk.2.2⟩
theorem nw_nx {w:World} {a b c a' b':Nat} (h3:a'≤a) (h4:b≤b') (h5:c<a∨b≤c):Kept w w (Nw a b) (Nx a' b' c):=Kept.more fun k hk=>⟨by have:=hk.1;omega,by have:=hk.2;omega,by have:=hk.1;have:=hk.2;omega⟩
theorem set_size (w:World) (a:Addr) (v:Value):(w.setCell a v).heap.size=w.heap.size:=by
 unfold World.setCell;simp
def rowLen (w:World) (g:Nat):Nat:=match w.cell? ⟨g,0,none⟩ with
 | some (.slice _ n _)=>n
 | _=>0
theorem Par.len {w:World} {g:Nat} {r:Sg} {V:Value} {d:Nat} (h:Par w g r V d):rowLen w g=r.length:=by
 obtain ⟨A,c,h,_⟩:=h;unfold rowLen;rw [h.1]
theorem txt_kind {r:Sg} {s:Str} (h:txt r=s) (h0:s≠[]):(hd r).kind≠0:=by
 cases r with
 | nil=>exact absurd h.symm h0
 | cons t r=>
  intro hk;have hk:t.kind=0:=hk;have h:(if t.kind=2∨t.kind=4 then t.text else [])=s:=h;rw [if_neg (by omega)] at h;exact h0 h.symm
theorem rb_one {α:Type} {enc:α→List Value} {z:Nat} (w:World) (e:TypeId) (x:α) (cs:Array Value) (hc:cs.toList=enc x) {a b:Nat} (ha:a≤w.heap.size) (hb:w.heap.size+1≤b):RB enc z (w.alloc (.cells cs e)) (Nw a b) ⟨some ⟨w.heap.size,0,none⟩,1,1⟩ [x]:=by
 have h:=one_row (z:=z) w e x cs hc;refine ⟨h.1,h.2.1,h.2.2.1,h.2.2.2.1,fun hn=>?_⟩;obtain ⟨b',off,e1,hb',hc'⟩:=h.2.2.2.2 hn;injection e1 with e1
 injection e1 with e1 e2
 subst e1 e2;exact ⟨_,_,rfl,⟨ha,by omega⟩,hc'⟩
theorem rb_two {α:Type} {enc:α→List Value} {z:Nat} (hz:∀ x,(enc x).length=z) (w:World) (e:TypeId) (x y:α) (cs:Array Value) (hc:cs.toList=enc x++enc y) {a b:Nat} (ha:a≤w.heap.size) (hb:w.heap.size+1≤b):RB enc z (w.alloc (.cells cs e)) (Nw a b) ⟨some ⟨w.heap.size,0,none⟩,2,2⟩ [x,y]:=by
 refine ⟨rfl,Nat.le_refl _,by show 2≤maxLen;unfold maxLen;omega,(fun h=>by cases h),fun _=>⟨_,0,rfl,⟨ha,by omega⟩,fun i u hu j v hv=>?_⟩⟩;have hj:j<z:=by have:=(List.getElem?_eq_some_iff.1 hv).1;rwa [hz] at this
 rw [World.cell?_alloc_mark];have:cs[0+i*z+j]?=(enc x++enc y)[i*z+j]?:=by rw [←hc,Nat.zero_add];simp
 rw [this]
 match i,hu with
 | 0,hu=>
  obtain rfl:x=u:=by simpa using hu
  rw [Nat.zero_mul,Nat.zero_add,List.getElem?_append_left (by rw [hz];exact hj)];exact hv
 | 1,hu=>
  obtain rfl:y=u:=by simpa using hu
  rw [List.getElem?_append_right (by rw [hz];omega),hz,show 1*z+j-z=j by omega];exact hv
 | i+2,hu=>simp at hu
section
variable {P:Program} {ops:Array Oper} {rest:List Oper} {op:Oper} {a:Act} {w:World} {Q:Exit→Act→World→Prop}
theorem m_slice1 {α:Type} {enc:α→List Value} {z:Nat} (x:α) (ST T u:Nat) (V:Value) (cs:Array Value) (ho:op.op=.buildSlice ST 1 #[(0,.tmp u)]) (hg:op.guard=none) (hy:a.eval (.tmp u)=V)
  (hrun:∀ w,(Instr.buildSlice ST 1 #[(0,V)]).run P w=.ok (.slice (some ⟨w.heap.size,0,none⟩) 1 1) (w.alloc (.cells cs T))) (hc:cs.toList=enc x)
  (h:∀ w',RB enc z w' (Nw w.heap.size (w.heap.size+1)) ⟨some ⟨w.heap.size,0,none⟩,1,1⟩ [x]→Below w.heap.size w w'→w'.heap.size=w.heap.size+1→wpList P ops Q rest (a.put op.dst (.slice (some ⟨w.heap.size,0,none⟩) 1 1)) w'):wpList P ops Q (op::rest) a w:=by
 refine wpList_plain hg fun K hK=>?_
 unfold Oper.wp execOp;simp only [ho,List.map_toArray,List.map_cons,List.map_nil,hy,hrun,Sem.run_bind,Result.andThen_ok];exact hK _ _ (h _ (rb_one w T x cs hc (Nat.le_refl _) (Nat.le_refl _)) ((Below.refl w.heap.size w).alloc (Nat.le_refl _) _) (by simp))
theorem m_slice2 {α:Type} {enc:α→List Value} {z:Nat} (hz:∀ x,(enc x).length=z) (x y:α) (ST T u v:Nat) (U V:Value) (cs:Array Value) (ho:op.op=.buildSlice ST 2 #[(0,.tmp u),(1,.tmp v)]) (hg:op.guard=none) (hy:a.eval (.tmp u)=U) (hy2:a.eval (.tmp v)=V)
  (hrun:∀ w,(Instr.buildSlice ST 2 #[(0,U),(1,V)]).run P w=.ok (.slice (some ⟨w.heap.size,0,none⟩) 2 2) (w.alloc (.cells cs T))) (hc:cs.toList=enc x++enc y)
  (h:∀ w',RB enc z w' (Nw w.heap.size (w.heap.size+1)) ⟨some ⟨w.heap.size,0,none⟩,2,2⟩ [x,y]→Below w.heap.size w w'→w'.heap.size=w.heap.size+1→wpList P ops Q rest (a.put op.dst (.slice (some ⟨w.heap.size,0,none⟩) 2 2)) w'):wpList P ops Q (op::rest) a w:=by
 refine wpList_plain hg fun K hK=>?_
 unfold Oper.wp execOp;simp only [ho,List.map_toArray,List.map_cons,List.map_nil,hy,hy2,hrun,Sem.run_bind,Result.andThen_ok];exact hK _ _ (h _ (rb_two hz w T x y cs hc (Nat.le_refl _) (Nat.le_refl _)) ((Below.refl w.heap.size w).alloc (Nat.le_refl _) _) (by simp))
end
theorem bs_E2 (h h':EH) (w:World):(Instr.buildSlice 42 2 #[(0,.agg (eC h).toArray),(1,.agg (eC h').toArray)]).run Tryz.prog w=.ok (.slice (some ⟨w.heap.size,0,none⟩) 2 2) (w.alloc (.cells (eC h++eC h').toArray 44)):=by kernel_rfl
theorem bs_E (h:EH) (w:World):(Instr.buildSlice 42 1 #[(0,.agg (eC h).toArray)]).run Tryz.prog w=.ok (.slice (some ⟨w.heap.size,0,none⟩) 1 1) (w.alloc (.cells (eC h).toArray 44)):=by kernel_rfl
theorem hbx {g v o:Nat} {w w':World} {vs:List Value} (h:w.grownBy w' (some g)) (hv:v<w.heap.size∧v≠g) (hb:Hid (Box w v o vs)):Hid (Box w' v o vs):=gr_box h hv.1 hv.2 hb
theorem hzz {w w':World} {row:Option Nat} {p:Prop} (h:w.grownBy w' row) (hp:Hid p):Hid (w.heap.size≤w'.heap.size∧p):=⟨h.size,hp⟩
theorem hgt {w w' w2:World} {row:Option Nat} {g:Nat} (hg:w'.grownBy w2 (some g)) (G:Hid (w.grownBy w' row)) (h:w.heap.size≤w'.heap.size→w.heap.size≤g):Hid (w.grownBy w2 row):=gr_then G.out (gr_below hg (h G.out.size) G.out.size)
theorem hkExB {w w':World} {q a b:Nat} {x:Ex} {e:EH} (hg:w.grownBy w' (some q)) (h:(q<a∨b≤q)∧b≤w.heap.size) (E:Hid (ExB w (Nw a b) x e)):Hid (ExB w' (Nw a b) x e):=ExB.kept (kept_nw hg h.1 h.2 (Nat.le_refl _) (Nat.le_refl _)) E.out
theorem hkStLB {w w':World} {q a b:Nat} {x:List St} {e:Sl} (hg:w.grownBy w' (some q)) (h:(q<a∨b≤q)∧b≤w.heap.size) (E:Hid (StLB w (Nw a b) e x)):Hid (StLB w' (Nw a b) e x):=StLB.kept (kept_nw hg h.1 h.2 (Nat.le_refl _) (Nat.le_refl _)) E.out
theorem hkRB {α:Type} {enc:α→List Value} {z:Nat} {w w':World} {q a b:Nat} {x:List α} {e:Sl} (hg:w.grownBy w' (some q)) (h:(q<a∨b≤q)∧b≤w.heap.size) (E:Hid (RB enc z w (Nw a b) e x)):Hid (RB enc z w' (Nw a b) e x):=RB.kept (kept_nw hg h.1 h.2 (Nat.le_refl _) (Nat.le_refl _)) E.out
theorem pgr {w w':World} {g q d:Nat} {r:Sg} {V:Value} (hg:w.grownBy w' (some q)) (hq:g<q) (P:Hid (Par w g r V d)):Hid (Par w' g r V d):=P.out.gr hg hq
theorem gtr {a b c:World} {row:Option Nat} (G:Hid (a.grownBy b row)) (h:b.grownBy c row):Hid (a.grownBy c row):=gr_trans G.out h
theorem hnq {r:Sg} (h:Hid (RowOk r)) {s:Str} (ht:¬ txt r=s) (h1:s≠nameS:=by decide) (h2:s≠numS:=by decide) (h3:s≠endS:=by decide) (h0:s≠[]:=by decide):¬ headS (tr.hd r)=s:=mt (headS_txt h.out h1 h2 h3 h0).1 ht
theorem hyq {r:Sg} (h:Hid (RowOk r)) {s:Str} (ht:txt r=s) (h1:s≠nameS:=by decide) (h2:s≠numS:=by decide) (h3:s≠endS:=by decide) (h0:s≠[]:=by decide):headS (tr.hd r)=s:=(headS_txt h.out h1 h2 h3 h0).2 ht
theorem znew (w:World) (cs:Array Value) (t:TypeId):Below w.heap.size w (w.alloc (.cells cs t))∧Box (w.alloc (.cells cs t)) w.heap.size 0 cs.toList∧(w.alloc (.cells cs t)).heap.size=w.heap.size+1:=
 ⟨(Below.refl w.heap.size w).alloc (Nat.le_refl _) (.cells cs t),Box.new w cs t,by simp⟩
theorem hbq {p:Prop} {g v o:Nat} {w w':World} {vs:List Value} (h:w.grownBy w' (some g)) (z:Hid p) (hb:Hid (Box w v o vs)) (hv:p→v<w.heap.size∧v≠g:=by intro z;omega):Hid (Box w' v o vs):=hbx h (hv z) hb
theorem pgq {p:Prop} {w w':World} {g q d:Nat} {r:Sg} {V:Value} (hg:w.grownBy w' (some q)) (z:Hid p) (P:Hid (Par w g r V d)) (hq:p→g<q:=by intro z;omega):Hid (Par w' g r V d):=pgr hg (hq z) P
theorem hgq {p:Prop} {w w' w2:World} {row:Option Nat} {g:Nat} (hg:w'.grownBy w2 (some g)) (G:Hid (w.grownBy w' row)) (z:Hid p) (h:p→w.heap.size≤w'.heap.size→w.heap.size≤g:=by intro z;omega):Hid (w.grownBy w2 row):=hgt hg G (h z)
theorem heq {p:Prop} {w w':World} {q a b:Nat} {x:Ex} {e:EH} (hg:w.grownBy w' (some q)) (z:Hid p) (E:Hid (ExB w (Nw a b) x e)) (h:p→(q<a∨b≤q)∧b≤w.heap.size:=by intro z;omega):Hid (ExB w' (Nw a b) x e):=hkExB hg (h z) E
theorem hsq {p:Prop} {w w':World} {q a b:Nat} {x:List St} {e:Sl} (hg:w.grownBy w' (some q)) (z:Hid p) (E:Hid (StLB w (Nw a b) e x)) (h:p→(q<a∨b≤q)∧b≤w.heap.size:=by intro z;omega):Hid (StLB w' (Nw a b) e x):=hkStLB hg (h z) E
theorem hrq {p:Prop} {α:Type} {enc:α→List Value} {n:Nat} {w w':World} {q a b:Nat} {x:List α} {e:Sl} (hg:w.grownBy w' (some q)) (z:Hid p) (E:Hid (RB enc n w (Nw a b) e x)) (h:p→(q<a∨b≤q)∧b≤w.heap.size:=by intro z;omega):Hid (RB enc n w' (Nw a b) e x):=hkRB hg (h z) E
end tr
namespace sh
open ChangeShapes WideShapes ChangeAt RowKit k rr tk tr
theorem nat_step (q:Nat) (h:(q:Int)+1≤9223372036854775807):IntKind.i64.wrap ((q:Int)+1)=((q+1:Nat):Int):=by rw [IntKind.wrap_i64];omega
theorem all_v {H:List Va} {s:Sl} {w:World} (h1:RS vC 8 w w.heap.size s H) (D P:Nat→Bool) (R:Bool) (hR:D 0=R) (hD:D s.l=true) (hS:∀ i,i<s.l→D i=(P i&&D (i+1)))
  (hC:∀ i x,H[i]?=some x→∀ W,Below w.heap.size w W→Calls Tryz.prog 33 #[.agg (vC x).toArray] W fun e w'=>e=.returned (.bool (P i))∧Below W.heap.size W w') :
  Calls Tryz.prog 32 #[s.v,.func (.func 33) #[] #[]] w fun e w'=>e=.returned (.bool R)∧Below w.heap.size w w':=by
 obtain ⟨A,n,cap⟩:=s;have h1:Rd vC 8 w w.heap.size A n cap H:=h1;simp only at hD hS;simp only [Sl.v];have hnl:=h1.len_le;have R1:=qh h1;have HR:=qh hR;have HD:=qh hD;have HS:=qh hS;have HC:=qh hC;clear h1 hR hD hS hC;go_enter Tryz.func32,Tryz.ntmps32
 go_upto_region 2 with (fail)
 go_loopw [9] (fun s9 wr=>∃ q:Nat,q≤n∧s9=.int .i64 q∧Below w.heap.size w wr∧D q=R) (fun i _=>n-(intOf i).toNat)
 case atStart=>exact ⟨0,Nat.zero_le _,rfl,Below.refl _ _,HR.out⟩
 case round=>
  obtain ⟨q,hq,rfl,hbw,hd⟩:=hrel;by_cases hlt:q<n
  ·have r1:Rd vC 8 wr wr.heap.size A n cap H:=(R1.out.below hbw).more hbw.size
   obtain ⟨b1,o1,x,rfl,hb1,hp,hc1⟩:=r1.at hlt;have CX:=qh (HC.out q x hp);rw [HS.out q hlt] at hd;have BB:=qh hbw;obtain ⟨u,hu⟩:∃ u,P q=u:=⟨_,rfl⟩;rw [hu] at hd CX;have HU:=qh hd;have w1:=nat_step q (by omega);clear hd hu hbw r1 hp hb1;have hci:=qh hc1;clear hc1;go_upto_region 4 with (first|((with_reducible refine m_loadR hci.out 60 11 ?_ ?_ ?_ ?_ ?_ ?_);rfl;rfl;rfl;rfl;kernel_rfl)|((with_reducible refine m_new 60 6 12 ?_ ?_ ?_ (vC x) ?_ ?_ ?_ ?_ (vC_one _) ?_);rfl;rfl;rfl;rfl;rfl;rfl;kernel_rfl;intro w4 hx hb hz))
   have X4:=qh hx;have B4:=btr BB hb;clear hx hb hz hci BB;go_wp2_with (first|((with_reducible refine m_load X4.out 60 6 ?_ ?_ ?_ ?_ ?_ ?_);rfl;rfl;rfl;rfl;kernel_rfl)|(go_at_call 33;fail))
   refine (CX.out w4 B4.out).mono ?_;rintro e w5 ⟨rfl,hb⟩;have B5:=btr B4 hb;clear hb CX X4 B4;cases u
   ·have HR2:=qh (show R=false by rw [←HU.out];simp)
    go_wp2_with fail
    go_ret
    exact ⟨ret_bool HR2.out.symm,B5.out⟩
   ·have HS2:=qh (show D (q+1)=R by rw [←HU.out];simp)
    go_wp2_with fail
    go_roundw
    case rel=>exact ⟨q+1,by omega,by go_num,B5.out,HS2.out⟩
    case measure=>simp [intOf];omega
  ·obtain rfl:q=n:=by omega
   have hz:¬ (q:Int)<q:=by omega
   rw [HD.out] at hd;have HU:=qh hd;have BB:=qh hbw;clear hd hbw;go_wp2_with fail
   go_ret
   exact ⟨ret_bool HU.out,BB.out⟩
theorem all_s {H:List SH} {s:Sl} {w:World} (h1:RS sC 19 w w.heap.size s H) (D P:Nat→Bool) (R:Bool) (hR:D 0=R) (hD:D s.l=true) (hS:∀ i,i<s.l→D i=(P i&&D (i+1)))
  (hC:∀ i x,H[i]?=some x→∀ W,Below w.heap.size w W→Calls Tryz.prog 57 #[.agg (sC x).toArray] W fun e w'=>e=.returned (.bool (P i))∧Below W.heap.size W w') :
  Calls Tryz.prog 56 #[s.v,.func (.func 57) #[] #[]] w fun e w'=>e=.returned (.bool R)∧Below w.heap.size w w':=by
 obtain ⟨A,n,cap⟩:=s;have h1:Rd sC 19 w w.heap.size A n cap H:=h1;simp only at hD hS;simp only [Sl.v];have hnl:=h1.len_le;have R1:=qh h1;have HR:=qh hR;have HD:=qh hD;have HS:=qh hS;have HC:=qh hC;clear h1 hR hD hS hC;go_enter Tryz.func56,Tryz.ntmps56
 go_upto_region 2 with (fail)
 go_loopw [9] (fun s9 wr=>∃ q:Nat,q≤n∧s9=.int .i64 q∧Below w.heap.size w wr∧D q=R) (fun i _=>n-(intOf i).toNat)
 case atStart=>exact ⟨0,Nat.zero_le _,rfl,Below.refl _ _,HR.out⟩
 case round=>
  obtain ⟨q,hq,rfl,hbw,hd⟩:=hrel;by_cases hlt:q<n
  ·have r1:Rd sC 19 wr wr.heap.size A n cap H:=(R1.out.below hbw).more hbw.size
   obtain ⟨b1,o1,x,rfl,hb1,hp,hc1⟩:=r1.at hlt;have CX:=qh (HC.out q x hp);rw [HS.out q hlt] at hd;have BB:=qh hbw;obtain ⟨u,hu⟩:∃ u,P q=u:=⟨_,rfl⟩;rw [hu] at hd CX;have HU:=qh hd;have w1:=nat_step q (by omega);clear hd hu hbw r1 hp hb1;have hci:=qh hc1;clear hc1;go_upto_region 4 with (first|((with_reducible refine m_loadR hci.out 49 11 ?_ ?_ ?_ ?_ ?_ ?_);rfl;rfl;rfl;rfl;kernel_rfl)|((with_reducible refine m_new 49 6 12 ?_ ?_ ?_ (sC x) ?_ ?_ ?_ ?_ (sC_one _) ?_);rfl;rfl;rfl;rfl;rfl;rfl;kernel_rfl;intro w4 hx hb hz))
   have X4:=qh hx;have B4:=btr BB hb;clear hx hb hz hci BB;go_wp2_with (first|((with_reducible refine m_load X4.out 49 6 ?_ ?_ ?_ ?_ ?_ ?_);rfl;rfl;rfl;rfl;kernel_rfl)|(go_at_call 57;fail))
   refine (CX.out w4 B4.out).mono ?_;rintro e w5 ⟨rfl,hb⟩;have B5:=btr B4 hb;clear hb CX X4 B4;cases u
   ·have HR2:=qh (show R=false by rw [←HU.out];simp)
    go_wp2_with fail
    go_ret
    exact ⟨ret_bool HR2.out.symm,B5.out⟩
   ·have HS2:=qh (show D (q+1)=R by rw [←HU.out];simp)
    go_wp2_with fail
    go_roundw
    case rel=>exact ⟨q+1,by omega,by go_num,B5.out,HS2.out⟩
    case measure=>simp [intOf];omega
  ·obtain rfl:q=n:=by omega
   have hz:¬ (q:Int)<q:=by omega
   rw [HD.out] at hd;have HU:=qh hd;have BB:=qh hbw;clear hd hbw;go_wp2_with fail
   go_ret
   exact ⟨ret_bool HU.out,BB.out⟩
theorem all_e {H:List EH} {s:Sl} {w:World} (h1:RS eC 6 w w.heap.size s H) (D P:Nat→Bool) (R:Bool) (hR:D 0=R) (hD:D s.l=true) (hS:∀ i,i<s.l→D i=(P i&&D (i+1)))
  (hC:∀ i x,H[i]?=some x→∀ W,Below w.heap.size w W→Calls Tryz.prog 90 #[.agg (eC x).toArray] W fun e w'=>e=.returned (.bool (P i))∧Below W.heap.size W w') :
  Calls Tryz.prog 91 #[s.v,.func (.func 90) #[] #[]] w fun e w'=>e=.returned (.bool R)∧Below w.heap.size w w':=by
 obtain ⟨A,n,cap⟩:=s;have h1:Rd eC 6 w w.heap.size A n cap H:=h1;simp only at hD hS;simp only [Sl.v];have hnl:=h1.len_le;have R1:=qh h1;have HR:=qh hR;have HD:=qh hD;have HS:=qh hS;have HC:=qh hC;clear h1 hR hD hS hC;go_enter Tryz.func91,Tryz.ntmps91
 go_upto_region 2 with (fail)
 go_loopw [9] (fun s9 wr=>∃ q:Nat,q≤n∧s9=.int .i64 q∧Below w.heap.size w wr∧D q=R) (fun i _=>n-(intOf i).toNat)
 case atStart=>exact ⟨0,Nat.zero_le _,rfl,Below.refl _ _,HR.out⟩
 case round=>
  obtain ⟨q,hq,rfl,hbw,hd⟩:=hrel;by_cases hlt:q<n
  ·have r1:Rd eC 6 wr wr.heap.size A n cap H:=(R1.out.below hbw).more hbw.size
   obtain ⟨b1,o1,x,rfl,hb1,hp,hc1⟩:=r1.at hlt;have CX:=qh (HC.out q x hp);rw [HS.out q hlt] at hd;have BB:=qh hbw;obtain ⟨u,hu⟩:∃ u,P q=u:=⟨_,rfl⟩;rw [hu] at hd CX;have HU:=qh hd;have w1:=nat_step q (by omega);clear hd hu hbw r1 hp hb1;have hci:=qh hc1;clear hc1;go_upto_region 4 with (first|((with_reducible refine m_loadR hci.out 44 11 ?_ ?_ ?_ ?_ ?_ ?_);rfl;rfl;rfl;rfl;kernel_rfl)|((with_reducible refine m_new 44 6 12 ?_ ?_ ?_ (eC x) ?_ ?_ ?_ ?_ (eC_one _) ?_);rfl;rfl;rfl;rfl;rfl;rfl;kernel_rfl;intro w4 hx hb hz))
   have X4:=qh hx;have B4:=btr BB hb;clear hx hb hz hci BB;go_wp2_with (first|((with_reducible refine m_load X4.out 44 6 ?_ ?_ ?_ ?_ ?_ ?_);rfl;rfl;rfl;rfl;kernel_rfl)|(go_at_call 90;fail))
   refine (CX.out w4 B4.out).mono ?_;rintro e w5 ⟨rfl,hb⟩;have B5:=btr B4 hb;clear hb CX X4 B4;cases u
   ·have HR2:=qh (show R=false by rw [←HU.out];simp)
    go_wp2_with fail
    go_ret
    exact ⟨ret_bool HR2.out.symm,B5.out⟩
   ·have HS2:=qh (show D (q+1)=R by rw [←HU.out];simp)
    go_wp2_with fail
    go_roundw
    case rel=>exact ⟨q+1,by omega,by go_num,B5.out,HS2.out⟩
    case measure=>simp [intOf];omega
  ·obtain rfl:q=n:=by omega
   have hz:¬ (q:Int)<q:=by omega
   rw [HD.out] at hd;have HU:=qh hd;have BB:=qh hbw;clear hd hbw;go_wp2_with fail
   go_ret
   exact ⟨ret_bool HU.out,BB.out⟩
theorem all_l {H:List Sl} {s:Sl} {w:World} (h1:RS slC 1 w w.heap.size s H) (D P:Nat→Bool) (R:Bool) (hR:D 0=R) (hD:D s.l=true) (hS:∀ i,i<s.l→D i=(P i&&D (i+1)))
  (hC:∀ i x,H[i]?=some x→∀ W,Below w.heap.size w W→Calls Tryz.prog 93 #[x.v] W fun e w'=>e=.returned (.bool (P i))∧Below W.heap.size W w') :
  Calls Tryz.prog 92 #[s.v,.func (.func 93) #[] #[]] w fun e w'=>e=.returned (.bool R)∧Below w.heap.size w w':=by
 obtain ⟨A,n,cap⟩:=s;have h1:Rd slC 1 w w.heap.size A n cap H:=h1;simp only at hD hS;simp only [Sl.v];have hnl:=h1.len_le;have R1:=qh h1;have HR:=qh hR;have HD:=qh hD;have HS:=qh hS;have HC:=qh hC;clear h1 hR hD hS hC;go_enter Tryz.func92,Tryz.ntmps92
 go_upto_region 2 with (fail)
 go_loopw [9] (fun s9 wr=>∃ q:Nat,q≤n∧s9=.int .i64 q∧Below w.heap.size w wr∧D q=R) (fun i _=>n-(intOf i).toNat)
 case atStart=>exact ⟨0,Nat.zero_le _,rfl,Below.refl _ _,HR.out⟩
 case round=>
  obtain ⟨q,hq,rfl,hbw,hd⟩:=hrel;by_cases hlt:q<n
  ·have r1:Rd slC 1 wr wr.heap.size A n cap H:=(R1.out.below hbw).more hbw.size
   obtain ⟨b1,o1,x,rfl,hb1,hp,hc1⟩:=r1.at hlt;have CX:=qh (HC.out q x hp);rw [HS.out q hlt] at hd;have BB:=qh hbw;obtain ⟨u,hu⟩:∃ u,P q=u:=⟨_,rfl⟩;rw [hu] at hd CX;have HU:=qh hd;have w1:=nat_step q (by omega);clear hd hu hbw r1 hp hb1;have a0:=hc1 0 _ rfl;rw [Nat.add_zero,Nat.mul_one] at a0;try unfold Sl.v at a0
   try unfold sv at a0
   try simp only [Sl.v] at CX
   clear hc1;go_wp2_with (go_at_call 93;fail)
   refine (CX.out wr BB.out).mono ?_;rintro e w5 ⟨rfl,hb⟩;have B5:=btr BB hb;clear hb CX a0 BB;cases u
   ·have HR2:=qh (show R=false by rw [←HU.out];simp)
    go_wp2_with fail
    go_ret
    exact ⟨ret_bool HR2.out.symm,B5.out⟩
   ·have HS2:=qh (show D (q+1)=R by rw [←HU.out];simp)
    go_wp2_with fail
    go_roundw
    case rel=>exact ⟨q+1,by omega,by go_num,B5.out,HS2.out⟩
    case measure=>simp [intOf];omega
  ·obtain rfl:q=n:=by omega
   have hz:¬ (q:Int)<q:=by omega
   rw [HD.out] at hd;have HU:=qh hd;have BB:=qh hbw;clear hd hbw;go_wp2_with fail
   go_ret
   exact ⟨ret_bool HU.out,BB.out⟩
theorem all_n {H:List Str} {s:Sl} {w:World} (h1:RS tC1 1 w w.heap.size s H) (D P:Nat→Bool) (R:Bool) (hR:D 0=R) (hD:D s.l=true) (hS:∀ i,i<s.l→D i=(P i&&D (i+1)))
  (hC:∀ i x,H[i]?=some x→∀ W,Below w.heap.size w W→Calls Tryz.prog 31 #[sv x] W fun e w'=>e=.returned (.bool (P i))∧Below W.heap.size W w') :
  Calls Tryz.prog 94 #[s.v,.func (.func 31) #[] #[]] w fun e w'=>e=.returned (.bool R)∧Below w.heap.size w w':=by
 obtain ⟨A,n,cap⟩:=s;have h1:Rd tC1 1 w w.heap.size A n cap H:=h1;simp only at hD hS;simp only [Sl.v];have hnl:=h1.len_le;have R1:=qh h1;have HR:=qh hR;have HD:=qh hD;have HS:=qh hS;have HC:=qh hC;clear h1 hR hD hS hC;go_enter Tryz.func94,Tryz.ntmps94
 go_upto_region 2 with (fail)
 go_loopw [9] (fun s9 wr=>∃ q:Nat,q≤n∧s9=.int .i64 q∧Below w.heap.size w wr∧D q=R) (fun i _=>n-(intOf i).toNat)
 case atStart=>exact ⟨0,Nat.zero_le _,rfl,Below.refl _ _,HR.out⟩
 case round=>
  obtain ⟨q,hq,rfl,hbw,hd⟩:=hrel;by_cases hlt:q<n
  ·have r1:Rd tC1 1 wr wr.heap.size A n cap H:=(R1.out.below hbw).more hbw.size
   obtain ⟨b1,o1,x,rfl,hb1,hp,hc1⟩:=r1.at hlt;have CX:=qh (HC.out q x hp);rw [HS.out q hlt] at hd;have BB:=qh hbw;obtain ⟨u,hu⟩:∃ u,P q=u:=⟨_,rfl⟩;rw [hu] at hd CX;have HU:=qh hd;have w1:=nat_step q (by omega);clear hd hu hbw r1 hp hb1;have a0:=hc1 0 _ rfl;rw [Nat.add_zero,Nat.mul_one] at a0;try unfold Sl.v at a0
   try unfold sv at a0
   try simp only [Sl.v] at CX
   clear hc1;go_wp2_with (go_at_call 31;fail)
   refine (CX.out wr BB.out).mono ?_;rintro e w5 ⟨rfl,hb⟩;have B5:=btr BB hb;clear hb CX a0 BB;cases u
   ·have HR2:=qh (show R=false by rw [←HU.out];simp)
    go_wp2_with fail
    go_ret
    exact ⟨ret_bool HR2.out.symm,B5.out⟩
   ·have HS2:=qh (show D (q+1)=R by rw [←HU.out];simp)
    go_wp2_with fail
    go_roundw
    case rel=>exact ⟨q+1,by omega,by go_num,B5.out,HS2.out⟩
    case measure=>simp [intOf];omega
  ·obtain rfl:q=n:=by omega
   have hz:¬ (q:Int)<q:=by omega
   rw [HD.out] at hd;have HU:=qh hd;have BB:=qh hbw;clear hd hbw;go_wp2_with fail
   go_ret
   exact ⟨ret_bool HU.out,BB.out⟩
theorem all_b {H:List Sl} {s:Sl} {w:World} (h1:RS slC 1 w w.heap.size s H) (D P:Nat→Bool) (R:Bool) (hR:D 0=R) (hD:D s.l=true) (hS:∀ i,i<s.l→D i=(P i&&D (i+1)))
  (hC:∀ i x,H[i]?=some x→∀ W,Below w.heap.size w W→Calls Tryz.prog 34 #[x.v] W fun e w'=>e=.returned (.bool (P i))∧Below W.heap.size W w') :
  Calls Tryz.prog 95 #[s.v,.func (.func 34) #[] #[]] w fun e w'=>e=.returned (.bool R)∧Below w.heap.size w w':=by
 obtain ⟨A,n,cap⟩:=s;have h1:Rd slC 1 w w.heap.size A n cap H:=h1;simp only at hD hS;simp only [Sl.v];have hnl:=h1.len_le;have R1:=qh h1;have HR:=qh hR;have HD:=qh hD;have HS:=qh hS;have HC:=qh hC;clear h1 hR hD hS hC;go_enter Tryz.func95,Tryz.ntmps95
 go_upto_region 2 with (fail)
 go_loopw [9] (fun s9 wr=>∃ q:Nat,q≤n∧s9=.int .i64 q∧Below w.heap.size w wr∧D q=R) (fun i _=>n-(intOf i).toNat)
 case atStart=>exact ⟨0,Nat.zero_le _,rfl,Below.refl _ _,HR.out⟩
 case round=>
  obtain ⟨q,hq,rfl,hbw,hd⟩:=hrel;by_cases hlt:q<n
  ·have r1:Rd slC 1 wr wr.heap.size A n cap H:=(R1.out.below hbw).more hbw.size
   obtain ⟨b1,o1,x,rfl,hb1,hp,hc1⟩:=r1.at hlt;have CX:=qh (HC.out q x hp);rw [HS.out q hlt] at hd;have BB:=qh hbw;obtain ⟨u,hu⟩:∃ u,P q=u:=⟨_,rfl⟩;rw [hu] at hd CX;have HU:=qh hd;have w1:=nat_step q (by omega);clear hd hu hbw r1 hp hb1;have a0:=hc1 0 _ rfl;rw [Nat.add_zero,Nat.mul_one] at a0;try unfold Sl.v at a0
   try unfold sv at a0
   try simp only [Sl.v] at CX
   clear hc1;go_wp2_with (go_at_call 34;fail)
   refine (CX.out wr BB.out).mono ?_;rintro e w5 ⟨rfl,hb⟩;have B5:=btr BB hb;clear hb CX a0 BB;cases u
   ·have HR2:=qh (show R=false by rw [←HU.out];simp)
    go_wp2_with fail
    go_ret
    exact ⟨ret_bool HR2.out.symm,B5.out⟩
   ·have HS2:=qh (show D (q+1)=R by rw [←HU.out];simp)
    go_wp2_with fail
    go_roundw
    case rel=>exact ⟨q+1,by omega,by go_num,B5.out,HS2.out⟩
    case measure=>simp [intOf];omega
  ·obtain rfl:q=n:=by omega
   have hz:¬ (q:Int)<q:=by omega
   rw [HD.out] at hd;have HU:=qh hd;have BB:=qh hbw;clear hd hbw;go_wp2_with fail
   go_ret
   exact ⟨ret_bool HU.out,BB.out⟩
theorem all_i {H:List Int} {s:Sl} {w:World} (h1:RS iC 1 w w.heap.size s H) (D P:Nat→Bool) (R:Bool) (hR:D 0=R) (hD:D s.l=true) (hS:∀ i,i<s.l→D i=(P i&&D (i+1)))
  (hC:∀ i x,H[i]?=some x→∀ W,Below w.heap.size w W→Calls Tryz.prog 86 #[.int .i64 x] W fun e w'=>e=.returned (.bool (P i))∧Below W.heap.size W w') :
  Calls Tryz.prog 123 #[s.v,.func (.func 86) #[] #[]] w fun e w'=>e=.returned (.bool R)∧Below w.heap.size w w':=by
 obtain ⟨A,n,cap⟩:=s;have h1:Rd iC 1 w w.heap.size A n cap H:=h1;simp only at hD hS;simp only [Sl.v];have hnl:=h1.len_le;have R1:=qh h1;have HR:=qh hR;have HD:=qh hD;have HS:=qh hS;have HC:=qh hC;clear h1 hR hD hS hC;go_enter Tryz.func123,Tryz.ntmps123
 go_upto_region 2 with (fail)
 go_loopw [9] (fun s9 wr=>∃ q:Nat,q≤n∧s9=.int .i64 q∧Below w.heap.size w wr∧D q=R) (fun i _=>n-(intOf i).toNat)
 case atStart=>exact ⟨0,Nat.zero_le _,rfl,Below.refl _ _,HR.out⟩
 case round=>
  obtain ⟨q,hq,rfl,hbw,hd⟩:=hrel;by_cases hlt:q<n
  ·have r1:Rd iC 1 wr wr.heap.size A n cap H:=(R1.out.below hbw).more hbw.size
   obtain ⟨b1,o1,x,rfl,hb1,hp,hc1⟩:=r1.at hlt;have CX:=qh (HC.out q x hp);rw [HS.out q hlt] at hd;have BB:=qh hbw;obtain ⟨u,hu⟩:∃ u,P q=u:=⟨_,rfl⟩;rw [hu] at hd CX;have HU:=qh hd;have w1:=nat_step q (by omega);clear hd hu hbw r1 hp hb1;have a0:=hc1 0 _ rfl;rw [Nat.add_zero,Nat.mul_one] at a0;try unfold Sl.v at a0
   try unfold sv at a0
   try simp only [Sl.v] at CX
   clear hc1;go_wp2_with (go_at_call 86;fail)
   refine (CX.out wr BB.out).mono ?_;rintro e w5 ⟨rfl,hb⟩;have B5:=btr BB hb;clear hb CX a0 BB;cases u
   ·have HR2:=qh (show R=false by rw [←HU.out];simp)
    go_wp2_with fail
    go_ret
    exact ⟨ret_bool HR2.out.symm,B5.out⟩
   ·have HS2:=qh (show D (q+1)=R by rw [←HU.out];simp)
    go_wp2_with fail
    go_roundw
    case rel=>exact ⟨q+1,by omega,by go_num,B5.out,HS2.out⟩
    case measure=>simp [intOf];omega
  ·obtain rfl:q=n:=by omega
   have hz:¬ (q:Int)<q:=by omega
   rw [HD.out] at hd;have HU:=qh hd;have BB:=qh hbw;clear hd hbw;go_wp2_with fail
   go_ret
   exact ⟨ret_bool HU.out,BB.out⟩
end sh
end Go.Proofs.YtdefgghhkknnpaaGreatDoor

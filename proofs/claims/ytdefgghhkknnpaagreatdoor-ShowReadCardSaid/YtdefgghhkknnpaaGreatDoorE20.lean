/- The landed parser's statements: assignments, over what the parts give; steps of regions that draw their order. No condition but what each line says. -/
import Derived.Test.YtdefgghhkknnpaaGreatDoorE19
set_option linter.unusedVariables false
set_option linter.unusedSimpArgs false
set_option maxRecDepth 100000
set_option maxHeartbeats 40000000
namespace Go.Proofs.YtdefgghhkknnpaaGreatDoor
namespace tr
open ChangeShapes WideShapes ChangeAt RowKit k rr tk
theorem box_drew {w:World} {g:Nat}:∀ {vs:List Value} {o:Nat},Box w g o vs→Box w.drew g o vs
 | [],_,_=>trivial
 | v::vs,o,h=>⟨h.1,h.2.1,box_drew h.2.2⟩
section
variable {P:Program} {ops:Array Oper} {op:Oper} {a:Act} {w:World} {K:Act→World→Prop} {Q:Exit→Act→World→Prop} {E:Prop}
theorem t_wanted (hg:op.guard=none) (h:Oper.wp P op a w K Q):if Region.wanted op (yielded ops a.tmps)=true then Oper.wp P op a w K Q else E:=by
 rw [if_pos (by simp [Region.wanted,hg])];exact h
theorem t_slice1 {α:Type} {enc:α→List Value} {z:Nat} (x:α) (ST T u:Nat) (V:Value) (cs:Array Value) (ho:op.op=.buildSlice ST 1 #[(0,.tmp u)]) (hg:op.guard=none) (hy:a.eval (.tmp u)=V)
  (hrun:∀ w,(Instr.buildSlice ST 1 #[(0,V)]).run P w=.ok (.slice (some ⟨w.heap.size,0,none⟩) 1 1) (w.alloc (.cells cs T))) (hc:cs.toList=enc x)
  (h:∀ w',RB enc z w' (Nw w.heap.size (w.heap.size+1)) ⟨some ⟨w.heap.size,0,none⟩,1,1⟩ [x]→Below w.heap.size w w'→w'.heap.size=w.heap.size+1→K (a.put op.dst (.slice (some ⟨w.heap.size,0,none⟩) 1 1)) w'):if Region.wanted op (yielded ops a.tmps)=true then Oper.wp P op a w K Q else E:=by
 refine t_wanted hg ?_;unfold Oper.wp execOp;simp only [ho,List.map_toArray,List.map_cons,List.map_nil,hy,hrun,Sem.run_bind,Result.andThen_ok];exact h _ (rb_one w T x cs hc (Nat.le_refl _) (Nat.le_refl _)) ((Below.refl w.heap.size w).alloc (Nat.le_refl _) _) (by simp)
theorem t_build3 (T i j l:Nat) (x y z:Operand) (X Y Z v:Value) (ho:op.op=.build T #[(i,x),(j,y),(l,z)]) (hg:op.guard=none) (hx:a.eval x=X) (hy:a.eval y=Y) (hz:a.eval z=Z) (hrun:∀ w,(Instr.build T #[(i,X),(j,Y),(l,Z)]).run P w=.ok v w)
  (h:K (a.put op.dst v) w):if Region.wanted op (yielded ops a.tmps)=true then Oper.wp P op a w K Q else E:=by
 refine t_wanted hg ?_;unfold Oper.wp execOp;simp only [ho,List.map_toArray,List.map_cons,List.map_nil,hx,hy,hz,hrun,Sem.run_bind,Result.andThen_ok];exact h
theorem t_store {g:Nat} {vs:List Value} (hb:k.Box w g 0 vs) (T:TypeId) (t u:Nat) (ho:op.op=.store T (.tmp t) (.tmp u)) (hg:op.guard=none) (hd:op.dst=none) (cs:List Value) (hx:a.eval (.tmp t)=.pointer (some ⟨g,0,none⟩)) (hy:a.eval (.tmp u)=.agg cs.toArray)
  (hl:cs.length=vs.length) (hi:(P.info? T).map (·.size)=some cs.length) (h1:∀ v∈cs,v.oneCell'=true)
  (h:∀ w',k.Box w' g 0 cs→w.grownBy w' (some g)→w'.heap.size=w.heap.size→K a w'):if Region.wanted op (yielded ops a.tmps)=true then Oper.wp P op a w K Q else E:=by
 refine t_wanted hg ?_;obtain ⟨W,e,hW,hs,_,_⟩:=k.stored (us:=cs) hb hl;refine wp_store_mid T (.tmp t) (.tmp u) ho g 0 cs.toArray hx hy (by rw [List.size_toArray,hl];exact hb.there) (by rw [List.size_toArray];exact hi) (all_oneCell_toArray h1) ?_;rw [hd]
 show K a (World.setCells _ _ _ cs)
 have hgr:w.grownBy (w.setCells g 0 cs) (some g):=by rw [k.setCells_puts];exact gr_puts cs 0 w
 rw [e] at hgr ⊢;exact h W hW hgr hs
end
section
variable {r:Sg} {V:Value} {d g:Nat} {w:World}
def namedF (f d:Nat) (r:Sg):Res (Int→St):=(want 1 r).bind fun t r'=>
 if txt r'=[40] then
  if txt (r'.drop 1)=[41] then .ok (fun ln=>St.mk 9 t.text zeroE zeroE [] [] [] [] ln) (r'.drop 2)
  else (argsF f d (r'.drop 1) [] []).bind fun a r'=>(need [41] r').bind fun _ r'=>.ok (fun ln=>St.mk 9 t.text zeroE zeroE a.2 [] a.1 [] ln) r'
 else (if txt r'=[91] then (indexF f d r').bind fun x r'=>.ok (Ex.mk 4 0 t.text [] [x] t.line) r' else .ok (Ex.mk 3 0 t.text [] [] t.line) r').bind fun dst r'=>
  (need [58,61] r').bind fun _ r'=>(expr f d r').bind fun x r'=>.ok (fun ln=>St.mk 1 [] dst x [] [] [] [] ln) r'
def callF (f d:Nat) (nm:Str) (r:Sg):Res (Int→St):=
 if txt r=[41] then .ok (fun ln=>St.mk 9 nm zeroE zeroE [] [] [] [] ln) (r.drop 1)
 else (argsF f d r [] []).bind fun a r'=>(need [41] r').bind fun _ r'=>.ok (fun ln=>St.mk 9 nm zeroE zeroE a.2 [] a.1 [] ln) r'
def assignF (f d:Nat) (dst:Ex) (r:Sg):Res (Int→St):=(need [58,61] r).bind fun _ r'=>(expr f d r').bind fun x r'=>.ok (fun ln=>St.mk 1 [] dst x [] [] [] [] ln) r'
theorem named_cases (f d:Nat) (r:Sg):(∃ n t,placeF f d r=.bad n t∧namedF f d r=.bad n t)∨(∃ nm x ln r2,placeF f d r=.ok (.mk 4 0 nm [] [x] ln) r2∧namedF f d r=assignF f d (.mk 4 0 nm [] [x] ln) r2) ∨
  ∃ nm ln r2,placeF f d r=.ok (.mk 3 0 nm [] [] ln) r2∧namedF f d r=if txt r2=[40] then callF f d nm (r2.drop 1) else assignF f d (.mk 3 0 nm [] [] ln) r2:=by
 unfold placeF namedF;cases want 1 r with
 | bad n t=>exact .inl ⟨n,t,rfl,rfl⟩
 | ok t r'=>
  simp only [bind_okE];by_cases h:txt r'=[91]
  ·rw [if_pos h,if_neg (show ¬ txt r'=[40] by rw [h];decide)]
   cases indexF f d r' with
   | bad n t=>exact .inl ⟨n,t,rfl,rfl⟩
   | ok x r2=>exact .inr (.inl ⟨_,x,_,r2,rfl,rfl⟩)
  ·rw [if_neg h]
   refine .inr (.inr ⟨_,_,_,rfl,?_⟩);by_cases h4:txt r'=[40]
   ·rw [if_pos h4,if_pos h4]
    unfold callF;rw [List.drop_drop]
   ·rw [if_neg h4,if_neg h4]
    rfl
theorem named_bad (hP:Par w g r V d) (hr:RowOk r) (hd:d≤32) {f:Nat} (hf:20*r.length+9≤f) (HC:ECtr Tryz.prog 160 (placeF f d r) d r) {n:Int} {t:Tk} (hp:placeF f d r=.bad n t) (hq:namedF f d r=.bad n t) :
  Calls Tryz.prog 142 #[.pointer (some ⟨g,0,none⟩)] w (Gv g V d w GotW (namedF f d r)):=by
 have HCC:=qh HC;rw [hp] at HCC;have HQ:=qh hq;clear HC hp hq;have P1:=qh hP;have G1:=qh (gr_refl w (some g));have R1:=qh hr;have Z1:=qh (show g<w.heap.size from hP.lt);clear hP hr;go_enter Tryz.func142,Tryz.ntmps142
 go_upto_region 1 with (fail)
 obtain ⟨hb,hx,hz⟩:=znew w #[.int .i64 0,.string ⟨#[]⟩,.int .i64 0,.int .i64 0,.string ⟨#[]⟩,.string ⟨#[]⟩,.slice none 0 0,.int .i64 0,.int .i64 0,.int .i64 0,.string ⟨#[]⟩,.string ⟨#[]⟩,.slice none 0 0,.int .i64 0,.slice none 0 0,.slice none 0 0,.slice none 0 0,.slice none 0 0,.int .i64 0] 49;generalize w.alloc (.cells #[.int .i64 0,.string ⟨#[]⟩,.int .i64 0,.int .i64 0,.string ⟨#[]⟩,.string ⟨#[]⟩,.slice none 0 0,.int .i64 0,.int .i64 0,.int .i64 0,.string ⟨#[]⟩,.string ⟨#[]⟩,.slice none 0 0,.int .i64 0,.slice none 0 0,.slice none 0 0,.slice none 0 0,.slice none 0 0,.int .i64 0] 49)=w4 at *;have hg:=gr_of (row:=some w.heap.size) hb;have Z2:=qh (And.intro hz Z1.out);have X3:=qh hx;clear hb hx hz;replace P1:=pgq hg Z1 P1;replace G1:=hgq hg G1 Z1;have Z6:=hzz hg Z2;clear hg;go_wp2_with (go_at_call 160;fail)
 refine (HCC.out _ _ _ P1.out).mono ?_;rintro e w5 ⟨rfl,hg⟩;go_wp2;exact ⟨rfl,Gv.badOf HQ.out (gr_trans G1.out hg)⟩
theorem named_index (hP:Par w g r V d) (hr:RowOk r) (hd:d≤32) {f:Nat} (hf:20*r.length+9≤f) (HC:ECtr Tryz.prog 160 (placeF f d r) d r) {nm:Str} {x:Ex} {ln:Int} {r2:Sg} (hln:r2.length<r.length) (hp:placeF f d r=.ok (.mk 4 0 nm [] [x] ln) r2) (hq:namedF f d r=assignF f d (.mk 4 0 nm [] [x] ln) r2) :
  Calls Tryz.prog 142 #[.pointer (some ⟨g,0,none⟩)] w (Gv g V d w GotW (namedF f d r)):=by
 have HCC:=qh HC;rw [hp] at HCC;generalize namedF f d r=R at *;unfold assignF at hq;have HR:=qh hq.symm;have HF:=qh hf;have LE0:=qh (show r2.length≤r.length by omega);clear HC hp hq hf hln;have P1:=qh hP;have G1:=qh (gr_refl w (some g));have R1:=qh hr;have Z1:=qh (show g<w.heap.size from hP.lt);clear hP hr;go_enter Tryz.func142,Tryz.ntmps142
 go_upto_region 1 with (fail)
 obtain ⟨hb,hx,hz⟩:=znew w #[.int .i64 0,.string ⟨#[]⟩,.int .i64 0,.int .i64 0,.string ⟨#[]⟩,.string ⟨#[]⟩,.slice none 0 0,.int .i64 0,.int .i64 0,.int .i64 0,.string ⟨#[]⟩,.string ⟨#[]⟩,.slice none 0 0,.int .i64 0,.slice none 0 0,.slice none 0 0,.slice none 0 0,.slice none 0 0,.int .i64 0] 49;generalize w.alloc (.cells #[.int .i64 0,.string ⟨#[]⟩,.int .i64 0,.int .i64 0,.string ⟨#[]⟩,.string ⟨#[]⟩,.slice none 0 0,.int .i64 0,.int .i64 0,.int .i64 0,.string ⟨#[]⟩,.string ⟨#[]⟩,.slice none 0 0,.int .i64 0,.slice none 0 0,.slice none 0 0,.slice none 0 0,.slice none 0 0,.int .i64 0] 49)=w4 at *;have hg:=gr_of (row:=some w.heap.size) hb;have Z2:=qh (And.intro hz Z1.out);have X3:=qh hx;clear hb hx hz;replace P1:=pgq hg Z1 P1;replace G1:=hgq hg G1 Z1;have Z6:=hzz hg Z2;clear hg;go_wp2_with (go_at_call 160;fail)
 refine (HCC.out _ _ _ P1.out).mono ?_;rintro e w5 ⟨⟨v9,rfl,hG⟩,hP9,hr9,hg⟩;have P7:=qh hP9;have R8:=qh hr9;replace X3:=hbq hg Z6 X3;clear P1;replace G1:=gtr G1 hg;have Z11:=hzz hg Z6;clear hg hP9 hr9 R1;obtain ⟨⟨o9,n9,nm9,fd9,⟨A9,l9,c9⟩,ln9⟩,rfl,hE9⟩:=hG;have HE9:=qh hE9;obtain ⟨rfl,rfl,rfl,rfl,rfl,_⟩:=hE9;go_upto_region 2 with ((with_reducible refine m_new 44 3 5 ?_ ?_ ?_ (eC ⟨4,0,nm9,[],⟨A9,l9,c9⟩,ln9⟩) ?_ ?_ ?_ ?_ (eC_one _) ?_);rfl;rfl;rfl;rfl;rfl;rfl;kernel_rfl;intro w6 hx hb hz)
 have hg:=gr_of (row:=some w5.heap.size) hb;have Z12:=qh (And.intro hz Z11.out);have X13:=qh hx;clear hb hx hz;replace X3:=hbq hg Z11 X3;replace HE9:=heq hg Z11 HE9;replace P7:=pgq hg Z11 P7;replace G1:=hgq hg G1 Z11;have Z18:=hzz hg Z12;clear hg;have ⟨a0,k0,a1,k1,a2,k2,a3,k3,a4,k4,a5,k5,_⟩:=X13.out;go_upto_region 4 with (fail)
 clear a0 k0 a1 k1 a2 k2 a3 k3 a4 k4 a5 k5;have L19:=qh (drop_len r2);by_cases hs20:txt (r2)=[58,61]
 rotate_left
 ·have hq:=HR.out
  rw [need_badE hs20] at hq;go_wp2_with (go_at_call 47;fail)
  refine (need_no P7.out R8.out (hnq R8 hs20)).mono ?_;rintro e w7 ⟨rfl,hb⟩;go_wp2;exact ⟨rfl,Gv.badOf hq.symm (gr_trans G1.out (gr_of hb))⟩
 have hq:=HR.out;rw [need_okE hs20,bind_okE] at hq;have HR21:=qh hq;clear hq HR;have R22:=qh (R8.out.drop (txt_kind hs20 (by decide)));go_wp2_with (go_at_call 47;fail)
 refine (need_yes P7.out R8.out (hyq R8 hs20)).mono ?_;rintro e w7 ⟨rfl,hp,hg⟩;have P23:=qh hp;replace X3:=hbq hg Z18 X3;replace X13:=hbq hg Z18 X13;replace HE9:=heq hg Z18 HE9;clear P7;replace G1:=gtr G1 hg;have Z28:=hzz hg Z18;clear hg hp R8;generalize ((r2).drop 1)=r29 at *;have L30:=qh (show r29.length≤r.length by have:=L19.out;have:=LE0.out;omega);have FI:=qh (fin_expr (d:=d) (f:=f) (r:=r29) (by have z:=Z28.out;have:=HF.out;have:=L30.out;omega));go_upto_region 5 with (fail)
 refine wp_region_T (by kernel_rfl) (fun w'=>Box w' (w5.heap.size) 0 (eC ⟨4,0,nm9,[],⟨A9,l9,c9⟩,ln9⟩)) [] (box_drew X13.out) (fun hHeld=>?_);have hb:=(Below.refl w7.heap.size w7).drew;generalize w7.drew=w8 at *;have hg:=gr_of (row:=some w7.heap.size) hb;replace X3:=hbq hg Z28 X3;replace X13:=hbq hg Z28 X13;replace HE9:=heq hg Z28 HE9;replace P23:=pgq hg Z28 P23;replace G1:=hgq hg G1 Z28;have Z36:=hzz hg Z28;clear hg hb;refine wpAnyT_take (i:=0) (v:=.agg (eC ⟨4,0,nm9,[],⟨A9,l9,c9⟩,ln9⟩).toArray) rfl (by kernel_rfl) (by kernel_rfl) (by kernel_rfl) (fun _ _ _ h=>h) (yieldsIf_load_mid (by rfl) 44 (.tmp 3) rfl (w5.heap.size) 0 rfl (eC ⟨4,0,nm9,[],⟨A9,l9,c9⟩,ln9⟩) _ (fun w_ hw_=>Box.range hw_) rfl rfl (by kernel_rfl)) (by assumption) ?_;try simp only [lq0,lq7,lq1,lq2,lq3,lq4,lq5,lq6]
 refine tkr (i:=1) rfl ?_;try simp only [lq0,lq7,lq1,lq2,lq3,lq4,lq5,lq6]
 refine wpAnyT_ready (rs:=[2]) (by kernel_rfl) (by simp) ?_;refine AllReadyT.cons rfl (fun K hK=>?_) AllReadyT.nil;go_simp;go_at_call 162
 refine (expr_gets (f:=f) (d:=d) hd R22.out (by have z:=Z36.out;have:=HF.out;have:=L30.out;omega) _ _ _ P23.out).mono ?_;rintro e w9 hgv;rcases hp:expr f d r29 with ⟨x8,r8⟩|⟨n9,t9⟩
 rotate_left
 ·rw [hp] at hgv
  obtain ⟨rfl,hg⟩:=hgv;have hq:=HR21.out;rw [hp] at hq;go_wp2;exact ⟨rfl,Gv.badOf hq.symm (gr_trans G1.out hg)⟩
 rw [hp] at hgv;obtain ⟨⟨v9,rfl,hG⟩,hP9,hr9,hg⟩:=hgv;have hq:=HR21.out;rw [hp] at hq;try rw [bind_okE] at hq
 have HR37:=qh hq;clear hq HR21;have P38:=qh hP9;have R39:=qh hr9;replace X3:=hbq hg Z36 X3;replace X13:=hbq hg Z36 X13;replace HE9:=heq hg Z36 HE9;clear P23;replace G1:=gtr G1 hg;have Z44:=hzz hg Z36;clear hg hP9 hr9 R22;obtain ⟨h45,rfl,hE9⟩:=hG;have E46:=qh hE9;clear hE9 FI hp;go_wp2_with fail
 refine hK.out _ _ X13.out (fun hHeld=>?_);clear hK K;try simp only [lq0,lq7,lq1,lq2,lq3,lq4,lq5,lq6]
 refine wpAnyT_ready (rs:=[3]) (by kernel_rfl) (by simp) ?_;refine AllReadyT.cons rfl (fun K hK=>?_) AllReadyT.nil;refine t_build3 49 0 2 3 (.const (.int .i64 1)) (.tmp 19) (.tmp 21) (.int .i64 1) (.agg (eC ⟨4,0,nm9,[],⟨A9,l9,c9⟩,ln9⟩).toArray) (.agg (eC h45).toArray) (.agg (sC ⟨1,[],⟨4,0,nm9,[],⟨A9,l9,c9⟩,ln9⟩,h45,⟨none,0,0⟩,⟨none,0,0⟩,⟨none,0,0⟩,⟨none,0,0⟩,0⟩).toArray) rfl rfl rfl rfl rfl (bd_set 1 ⟨4,0,nm9,[],⟨A9,l9,c9⟩,ln9⟩ h45) ?_;refine hK.out _ _ X13.out (fun hHeld=>?_);clear hK K;try simp only [lq0,lq7,lq1,lq2,lq3,lq4,lq5,lq6]
 refine wpAnyT_ready (rs:=[4]) (by kernel_rfl) (by simp) ?_;refine AllReadyT.cons rfl (fun K hK=>?_) AllReadyT.nil;refine t_store X3.out 49 2 22 rfl rfl rfl (sC ⟨1,[],⟨4,0,nm9,[],⟨A9,l9,c9⟩,ln9⟩,h45,⟨none,0,0⟩,⟨none,0,0⟩,⟨none,0,0⟩,⟨none,0,0⟩,0⟩) rfl rfl rfl (by kernel_rfl) (sC_one _) ?_;intro w10 hx hg hs;have X48:=qh hx;have Z49:=qh (And.intro hs Z44.out);clear hx hs X3;replace X13:=hbq hg Z44 X13;replace HE9:=heq hg Z44 HE9;replace E46:=heq hg Z44 E46;replace P38:=pgq hg Z44 P38;replace G1:=hgq hg G1 Z44;have Z55:=hzz hg Z49;clear hg;refine hK.out _ _ X13.out (fun hHeld=>?_);clear hK K;try simp only [lq0,lq7,lq1,lq2,lq3,lq4,lq5,lq6]
 refine wpAnyT_done (by kernel_rfl) ?_ _;go_wp2;refine bodyPost_ret (k.results_cell rfl rfl (run_loadVar_mid _ w.heap.size 0 49 _ _ X48.out.range rfl rfl (by kernel_rfl))) rfl ?_;refine Gv.okOf HR37.out.symm ⟨fun _=>rfl,⟨1,[],⟨4,0,nm9,[],⟨A9,l9,c9⟩,ln9⟩,h45,⟨none,0,0⟩,⟨none,0,0⟩,⟨none,0,0⟩,⟨none,0,0⟩,0⟩,rfl,?_⟩ P38.out R39.out G1.out;unfold StB;exact ⟨rfl,rfl,rfl,(ExB.kept (more_nw (qq Z55) (qq Z55)) HE9.out),(ExB.kept (more_nw (qq Z55) (qq Z55)) E46.out),ExLB.none_ _ _,⟨[],RB.none_ _ _ _ _,rfl⟩,RB.none_ _ _ _ _,[],RB.none_ _ _ _ _,BlksB.nil⟩
theorem named_var (hP:Par w g r V d) (hr:RowOk r) (hd:d≤32) {f:Nat} (hf:20*r.length+9≤f) (HC:ECtr Tryz.prog 160 (placeF f d r) d r) {nm:Str} {ln:Int} {r2:Sg} (hln:r2.length<r.length) (HCA:∀ nm r1,RowOk r1→r1.length<r.length→∀ (V:Value) (g:Nat) (w:World),Par w g r1 V d→Calls Tryz.prog 161 #[.pointer (some ⟨g,0,none⟩),sv nm] w (Gv g V d w GotW (callF f d nm r1))) (hp:placeF f d r=.ok (.mk 3 0 nm [] [] ln) r2) (hq:namedF f d r=if txt r2=[40] then callF f d nm (r2.drop 1) else assignF f d (.mk 3 0 nm [] [] ln) r2) :
  Calls Tryz.prog 142 #[.pointer (some ⟨g,0,none⟩)] w (Gv g V d w GotW (namedF f d r)):=by
 have HCC:=qh HC;rw [hp] at HCC;generalize namedF f d r=R at *;have HR:=qh hq.symm;have HF:=qh hf;have HCL:=qh HCA;have HLN:=qh hln;have LE0:=qh (show r2.length≤r.length by omega);clear HC HCA hp hq hf hln;have P1:=qh hP;have G1:=qh (gr_refl w (some g));have R1:=qh hr;have Z1:=qh (show g<w.heap.size from hP.lt);clear hP hr;go_enter Tryz.func142,Tryz.ntmps142
 go_upto_region 1 with (fail)
 obtain ⟨hb,hx,hz⟩:=znew w #[.int .i64 0,.string ⟨#[]⟩,.int .i64 0,.int .i64 0,.string ⟨#[]⟩,.string ⟨#[]⟩,.slice none 0 0,.int .i64 0,.int .i64 0,.int .i64 0,.string ⟨#[]⟩,.string ⟨#[]⟩,.slice none 0 0,.int .i64 0,.slice none 0 0,.slice none 0 0,.slice none 0 0,.slice none 0 0,.int .i64 0] 49;generalize w.alloc (.cells #[.int .i64 0,.string ⟨#[]⟩,.int .i64 0,.int .i64 0,.string ⟨#[]⟩,.string ⟨#[]⟩,.slice none 0 0,.int .i64 0,.int .i64 0,.int .i64 0,.string ⟨#[]⟩,.string ⟨#[]⟩,.slice none 0 0,.int .i64 0,.slice none 0 0,.slice none 0 0,.slice none 0 0,.slice none 0 0,.int .i64 0] 49)=w4 at *;have hg:=gr_of (row:=some w.heap.size) hb;have Z2:=qh (And.intro hz Z1.out);have X3:=qh hx;clear hb hx hz;replace P1:=pgq hg Z1 P1;replace G1:=hgq hg G1 Z1;have Z6:=hzz hg Z2;clear hg;go_wp2_with (go_at_call 160;fail)
 refine (HCC.out _ _ _ P1.out).mono ?_;rintro e w5 ⟨⟨v9,rfl,hG⟩,hP9,hr9,hg⟩;have P7:=qh hP9;have R8:=qh hr9;replace X3:=hbq hg Z6 X3;clear P1;replace G1:=gtr G1 hg;have Z11:=hzz hg Z6;clear hg hP9 hr9 R1;obtain ⟨⟨o9,n9,nm9,fd9,⟨A9,l9,c9⟩,ln9⟩,rfl,hE9⟩:=hG;have HE9:=qh hE9;obtain ⟨rfl,rfl,rfl,rfl,rfl,_⟩:=hE9;go_upto_region 2 with ((with_reducible refine m_new 44 3 5 ?_ ?_ ?_ (eC ⟨3,0,nm9,[],⟨A9,l9,c9⟩,ln9⟩) ?_ ?_ ?_ ?_ (eC_one _) ?_);rfl;rfl;rfl;rfl;rfl;rfl;kernel_rfl;intro w6 hx hb hz)
 have hg:=gr_of (row:=some w5.heap.size) hb;have Z12:=qh (And.intro hz Z11.out);have X13:=qh hx;clear hb hx hz;replace X3:=hbq hg Z11 X3;replace HE9:=heq hg Z11 HE9;replace P7:=pgq hg Z11 P7;replace G1:=hgq hg G1 Z11;have Z18:=hzz hg Z12;clear hg;have ⟨a0,k0,a1,k1,a2,k2,a3,k3,a4,k4,a5,k5,_⟩:=X13.out;by_cases hw:txt r2=[40]
 ·skip
  have hq:=HR.out;rw [if_pos hw] at hq;have HR19:=qh hq;clear hq HR;have L20:=qh (drop_len r2);have R21:=qh (R8.out.drop (txt_kind hw (by decide)));go_wp2_with (go_at_call 76;fail)
  refine (take_yes P7.out R8.out (hyq R8 hw) (txt_kind hw (by decide))).mono ?_;rintro e w7 ⟨rfl,hp,hg⟩;have P22:=qh hp;replace X3:=hbq hg Z18 X3;replace X13:=hbq hg Z18 X13;replace HE9:=heq hg Z18 HE9;clear P7;replace G1:=gtr G1 hg;have Z27:=hzz hg Z18;clear hg hp R8;generalize ((r2).drop 1)=r28 at *;have L29:=qh (show r28.length≤r.length by have:=L20.out;have:=LE0.out;omega);clear a0 k0 a1 k1 a2 k2 a3 k3 a4 k4 a5 k5;have ⟨a0,k0,a1,k1,a2,k2,a3,k3,a4,k4,a5,k5,_⟩:=X13.out;have CL:=HCL.out nm9 r28 R21.out (by have:=L20.out;have:=HLN.out;omega);rw [HR19.out] at CL;have CLL:=qh CL;clear CL HR19;go_wp2_with (go_at_call 161;fail)
  refine (CLL.out _ _ _ P22.out).mono ?_;rintro e w8 hgv;rcases R with ⟨x8,r8⟩|⟨n9,t9⟩
  rotate_left
  ·skip
   obtain ⟨rfl,hg⟩:=hgv;go_wp2;exact ⟨rfl,Gv.badOf rfl (gr_trans G1.out hg)⟩
  obtain ⟨⟨v9,rfl,hG⟩,hP9,hr9,hg⟩:=hgv;have P30:=qh hP9;have R31:=qh hr9;have X32:=hbq hg Z27 X3;clear X3;replace X13:=hbq hg Z27 X13;replace HE9:=heq hg Z27 HE9;clear P22;replace G1:=gtr G1 hg;have Z36:=hzz hg Z27;clear hg hP9 hr9 R21;obtain ⟨hlin,hG⟩:=hG;have HLIN:=qh hlin;clear hlin;obtain ⟨h37,rfl,hE9⟩:=hG;have E38:=qh hE9;clear hE9 a0 k0 a1 k1 a2 k2 a3 k3 a4 k4 a5 k5;go_wp2_with ((with_reducible refine m_store X32.out 49 2 16 ?_ ?_ ?_ (sC h37) ?_ ?_ ?_ ?_ (sC_one _) ?_);rfl;rfl;rfl;rfl;rfl;rfl;kernel_rfl;intro w9 hx hg hs)
  have X40:=qh hx;have Z41:=qh (And.intro hs Z36.out);clear hx hs X32;replace X13:=hbq hg Z36 X13;replace HE9:=heq hg Z36 HE9;have E44:=qh (StB.kept (kept_nw hg (qq Z36) (qq Z36) (Nat.le_refl _) (Nat.le_refl _)) E38.out);clear E38;have P45:=pgq hg Z36 P30;clear P30;replace G1:=hgq hg G1 Z36;have Z47:=hzz hg Z41;clear hg;refine bodyPost_ret (k.results_cell rfl rfl (run_loadVar_mid _ w.heap.size 0 49 _ _ X40.out.range rfl rfl (by kernel_rfl))) rfl ?_;exact Gv.okOf rfl ⟨HLIN.out,h37,rfl,(StB.kept (more_nw (qq Z47) (qq Z47)) E44.out)⟩ P45.out R31.out G1.out
 ·skip
  have hq:=HR.out;rw [if_neg hw] at hq;unfold assignF at hq;have HR19:=qh hq;clear hq HR;go_wp2_with (go_at_call 76;fail)
  refine (take_no P7.out R8.out (hnq R8 hw)).mono ?_;rintro e w7 ⟨rfl,hb⟩;have hg:=gr_of (row:=some w6.heap.size) hb;replace X3:=hbq hg Z18 X3;replace X13:=hbq hg Z18 X13;replace HE9:=heq hg Z18 HE9;replace P7:=pgq hg Z18 P7;replace G1:=hgq hg G1 Z18;have Z25:=hzz hg Z18;clear hg hb a0 k0 a1 k1 a2 k2 a3 k3 a4 k4 a5 k5;go_upto_region 4 with (fail)
  have L26:=qh (drop_len r2);by_cases hs27:txt (r2)=[58,61]
  rotate_left
  ·have hq:=HR19.out
   rw [need_badE hs27] at hq;go_wp2_with (go_at_call 47;fail)
   refine (need_no P7.out R8.out (hnq R8 hs27)).mono ?_;rintro e w8 ⟨rfl,hb⟩;go_wp2;exact ⟨rfl,Gv.badOf hq.symm (gr_trans G1.out (gr_of hb))⟩
  have hq:=HR19.out;rw [need_okE hs27,bind_okE] at hq;have HR28:=qh hq;clear hq HR19;have R29:=qh (R8.out.drop (txt_kind hs27 (by decide)));go_wp2_with (go_at_call 47;fail)
  refine (need_yes P7.out R8.out (hyq R8 hs27)).mono ?_;rintro e w8 ⟨rfl,hp,hg⟩;have P30:=qh hp;replace X3:=hbq hg Z25 X3;have X32:=hbq hg Z25 X13;clear X13;replace HE9:=heq hg Z25 HE9;clear P7;replace G1:=gtr G1 hg;have Z35:=hzz hg Z25;clear hg hp R8;generalize ((r2).drop 1)=r36 at *;have L37:=qh (show r36.length≤r.length by have:=L26.out;have:=LE0.out;omega);have FI:=qh (fin_expr (d:=d) (f:=f) (r:=r36) (by have z:=Z35.out;have:=HF.out;have:=L37.out;omega));go_upto_region 5 with (fail)
  refine wp_region_T (by kernel_rfl) (fun w'=>Box w' (w5.heap.size) 0 (eC ⟨3,0,nm9,[],⟨A9,l9,c9⟩,ln9⟩)) [] (box_drew X32.out) (fun hHeld=>?_);have hb:=(Below.refl w8.heap.size w8).drew;generalize w8.drew=w9 at *;have hg:=gr_of (row:=some w8.heap.size) hb;replace X3:=hbq hg Z35 X3;replace X32:=hbq hg Z35 X32;replace HE9:=heq hg Z35 HE9;replace P30:=pgq hg Z35 P30;replace G1:=hgq hg G1 Z35;have Z43:=hzz hg Z35;clear hg hb;refine wpAnyT_take (i:=0) (v:=.agg (eC ⟨3,0,nm9,[],⟨A9,l9,c9⟩,ln9⟩).toArray) rfl (by kernel_rfl) (by kernel_rfl) (by kernel_rfl) (fun _ _ _ h=>h) (yieldsIf_load_mid (by rfl) 44 (.tmp 3) rfl (w5.heap.size) 0 rfl (eC ⟨3,0,nm9,[],⟨A9,l9,c9⟩,ln9⟩) _ (fun w_ hw_=>Box.range hw_) rfl rfl (by kernel_rfl)) (by assumption) ?_;try simp only [lq0,lq7,lq1,lq2,lq3,lq4,lq5,lq6]
  refine tkr (i:=1) rfl ?_;try simp only [lq0,lq7,lq1,lq2,lq3,lq4,lq5,lq6]
  refine wpAnyT_ready (rs:=[2]) (by kernel_rfl) (by simp) ?_;refine AllReadyT.cons rfl (fun K hK=>?_) AllReadyT.nil;go_simp;go_at_call 162
  refine (expr_gets (f:=f) (d:=d) hd R29.out (by have z:=Z43.out;have:=HF.out;have:=L37.out;omega) _ _ _ P30.out).mono ?_;rintro e w10 hgv;rcases hp:expr f d r36 with ⟨x8,r8⟩|⟨n9,t9⟩
  rotate_left
  ·rw [hp] at hgv
   obtain ⟨rfl,hg⟩:=hgv;have hq:=HR28.out;rw [hp] at hq;go_wp2;exact ⟨rfl,Gv.badOf hq.symm (gr_trans G1.out hg)⟩
  rw [hp] at hgv;obtain ⟨⟨v9,rfl,hG⟩,hP9,hr9,hg⟩:=hgv;have hq:=HR28.out;rw [hp] at hq;try rw [bind_okE] at hq
  have HR44:=qh hq;clear hq HR28;have P45:=qh hP9;have R46:=qh hr9;replace X3:=hbq hg Z43 X3;replace X32:=hbq hg Z43 X32;replace HE9:=heq hg Z43 HE9;clear P30;replace G1:=gtr G1 hg;have Z51:=hzz hg Z43;clear hg hP9 hr9 R29;obtain ⟨h52,rfl,hE9⟩:=hG;have E53:=qh hE9;clear hE9 FI hp;go_wp2_with fail
  refine hK.out _ _ X32.out (fun hHeld=>?_);clear hK K;try simp only [lq0,lq7,lq1,lq2,lq3,lq4,lq5,lq6]
  refine wpAnyT_ready (rs:=[3]) (by kernel_rfl) (by simp) ?_;refine AllReadyT.cons rfl (fun K hK=>?_) AllReadyT.nil;refine t_build3 49 0 2 3 (.const (.int .i64 1)) (.tmp 19) (.tmp 21) (.int .i64 1) (.agg (eC ⟨3,0,nm9,[],⟨A9,l9,c9⟩,ln9⟩).toArray) (.agg (eC h52).toArray) (.agg (sC ⟨1,[],⟨3,0,nm9,[],⟨A9,l9,c9⟩,ln9⟩,h52,⟨none,0,0⟩,⟨none,0,0⟩,⟨none,0,0⟩,⟨none,0,0⟩,0⟩).toArray) rfl rfl rfl rfl rfl (bd_set 1 ⟨3,0,nm9,[],⟨A9,l9,c9⟩,ln9⟩ h52) ?_;refine hK.out _ _ X32.out (fun hHeld=>?_);clear hK K;try simp only [lq0,lq7,lq1,lq2,lq3,lq4,lq5,lq6]
  refine wpAnyT_ready (rs:=[4]) (by kernel_rfl) (by simp) ?_;refine AllReadyT.cons rfl (fun K hK=>?_) AllReadyT.nil;refine t_store X3.out 49 2 22 rfl rfl rfl (sC ⟨1,[],⟨3,0,nm9,[],⟨A9,l9,c9⟩,ln9⟩,h52,⟨none,0,0⟩,⟨none,0,0⟩,⟨none,0,0⟩,⟨none,0,0⟩,0⟩) rfl rfl rfl (by kernel_rfl) (sC_one _) ?_;intro w11 hx hg hs;have X55:=qh hx;have Z56:=qh (And.intro hs Z51.out);clear hx hs X3;replace X32:=hbq hg Z51 X32;replace HE9:=heq hg Z51 HE9;replace E53:=heq hg Z51 E53;replace P45:=pgq hg Z51 P45;replace G1:=hgq hg G1 Z51;have Z62:=hzz hg Z56;clear hg;refine hK.out _ _ X32.out (fun hHeld=>?_);clear hK K;try simp only [lq0,lq7,lq1,lq2,lq3,lq4,lq5,lq6]
  refine wpAnyT_done (by kernel_rfl) ?_ _;go_wp2;refine bodyPost_ret (k.results_cell rfl rfl (run_loadVar_mid _ w.heap.size 0 49 _ _ X55.out.range rfl rfl (by kernel_rfl))) rfl ?_;refine Gv.okOf HR44.out.symm ⟨fun _=>rfl,⟨1,[],⟨3,0,nm9,[],⟨A9,l9,c9⟩,ln9⟩,h52,⟨none,0,0⟩,⟨none,0,0⟩,⟨none,0,0⟩,⟨none,0,0⟩,0⟩,rfl,?_⟩ P45.out R46.out G1.out;unfold StB;exact ⟨rfl,rfl,rfl,(ExB.kept (more_nw (qq Z62) (qq Z62)) HE9.out),(ExB.kept (more_nw (qq Z62) (qq Z62)) E53.out),ExLB.none_ _ _,⟨[],RB.none_ _ _ _ _,rfl⟩,RB.none_ _ _ _ _,[],RB.none_ _ _ _ _,BlksB.nil⟩
end
theorem exprs_slice:Tryz.prog.underlying 42=some (.slice 44):=by kernel_rfl
theorem expr_info:(Tryz.prog.info? 44).map (fun i=>(i.zero,i.size,i.bytes))=some (some (.agg #[.int .i64 0,.int .i64 0,.string ⟨#[]⟩,.string ⟨#[]⟩,.slice none 0 0,.int .i64 0]),6,80):=by kernel_rfl
theorem strs_slice:Tryz.prog.underlying 46=some (.slice 9):=by kernel_rfl
theorem str_info:(Tryz.prog.info? 9).map (fun i=>(i.zero,i.size,i.bytes))=some (some (.string ⟨#[]⟩),1,16):=by kernel_rfl
theorem blks_slice:Tryz.prog.underlying 47=some (.slice 23):=by kernel_rfl
theorem blk_info:(Tryz.prog.info? 23).map (fun i=>(i.zero,i.size,i.bytes))=some (some (.slice none 0 0),1,24):=by kernel_rfl
theorem labs_slice:Tryz.prog.underlying 45=some (.slice 104):=by kernel_rfl
theorem lab_info:(Tryz.prog.info? 104).map (fun i=>(i.zero,i.size,i.bytes))=some (some (.slice none 0 0),1,24):=by kernel_rfl
theorem bs_T1 (s:Str) (w:World):(Instr.buildSlice 46 1 #[(0,.string ⟨s.toArray⟩)]).run Tryz.prog w=.ok (.slice (some ⟨w.heap.size,0,none⟩) 1 1) (w.alloc (.cells (tC1 s).toArray 9)):=by kernel_rfl
theorem exsB_len {w:World} {S:Nat→Prop}:∀ {L:List Ex} {H:List EH},ExsB w S L H→H.length=L.length
 | [],_,e=>by cases e;rfl
 | x::L,_,⟨h,H',e,h1,h2⟩=>by rw [e,List.length_cons,List.length_cons,exsB_len h2]
section
variable {P:Program} {ops:Array Oper} {op:Oper} {a:Act} {w:World} {K:Act→World→Prop} {Q:Exit→Act→World→Prop} {E:Prop}
theorem t_set1 {g j:Nat} {vs:List Value} (hb:k.Box w g 0 vs) (hj:j<vs.length) (T t u:Nat) (ho:op.op=.store T (.tmp t) (.tmp u)) (hg:op.guard=none) (hd:op.dst=none) (v:Value) (hx:a.eval (.tmp t)=.pointer (some ⟨g,j,none⟩)) (hy:a.eval (.tmp u)=v) (h1:v.oneCell'=true) (hi:(P.info? T).map (·.size)=some 1)
  (h:∀ w',k.Box w' g 0 (vs.set j v)→w.grownBy w' (some g)→w'.heap.size=w.heap.size→K a w'):if Region.wanted op (yielded ops a.tmps)=true then Oper.wp P op a w K Q else E:=by
 refine t_wanted hg ?_;have hc:v.cells=#[v]:=by cases v<;>first|rfl|cases h1
 obtain ⟨u0,hu0⟩:∃ u,vs[j]?=some u:=⟨_,List.getElem?_eq_getElem hj⟩;have hcell:=cell_of hb hu0;have hthere:w.there g j 1:=by
  intro i hi';have:i=0:=by omega
  subst this;exact ⟨by rw [Nat.add_zero,hcell.1];rfl,by rw [Nat.add_zero];exact hcell.2⟩
 have hrun:=run_storeCells_cells (P:=P) g j [v] 0 w (fun i hi'=>by simpa using (hthere i (by simpa using hi')).1) (fun i hi'=>by simpa using (hthere i (by simpa using hi')).2) (fun x hx'=>by
  simp only [List.mem_cons,List.not_mem_nil,or_false] at hx';subst hx';exact h1)
 simp only [Nat.add_zero] at hrun;have hst:(storeVar T ⟨g,j,none⟩ v).run P w=.ok () (w.setCells g j [v]):=by
  cases hq:P.info? T with
  | none=>simp [hq] at hi
  | some i=>
   have hs:i.size=1:=by simpa [hq] using hi
   simp [storeVar,sizeOf,typeInfo,hq,hc,hs,hrun]
 unfold Oper.wp execOp;simp only [ho,hx,hy,Instr.storeAt,Instr.sureAddr,Sem.run_bind,Sem.run_pure,Result.andThen_ok,hst];change K (a.put op.dst undef) _
 rw [hd];exact h _ (Box.put hb j hj v) (gr_set w g j v) (set_size _ _ _)
end
section
variable {r:Sg} {V:Value} {d g:Nat} {w:World}
theorem call_any (hP:Par w g r V d) (hr:RowOk r) (hd:d≤32) (hl:r.length≤17000) {f:Nat} (hf:20*r.length+10≤f) (nm:Str) :
  Calls Tryz.prog 161 #[.pointer (some ⟨g,0,none⟩),sv nm] w (Gv g V d w GotW (callF f d nm r)):=by
 obtain ⟨R,hR⟩:∃ R:Res (Int→St),(callF f d nm r)=R:=⟨_,rfl⟩;rw [hR];have HR:=qh hR;clear hR;have HL:=qh hl;have HF:=qh hf;unfold sv;clear hl hf;have P1:=qh hP;have G1:=qh (gr_refl w (some g));have R1:=qh hr;have Z1:=qh (show g<w.heap.size from hP.lt);clear hP hr;have hq:=HR.out;unfold callF at hq;have HR2:=qh hq;clear hq HR;go_enter Tryz.func161,Tryz.ntmps161
 go_upto_region 1 with (fail)
 obtain ⟨hb,hx,hz⟩:=znew w #[.int .i64 0,.string ⟨#[]⟩,.int .i64 0,.int .i64 0,.string ⟨#[]⟩,.string ⟨#[]⟩,.slice none 0 0,.int .i64 0,.int .i64 0,.int .i64 0,.string ⟨#[]⟩,.string ⟨#[]⟩,.slice none 0 0,.int .i64 0,.slice none 0 0,.slice none 0 0,.slice none 0 0,.slice none 0 0,.int .i64 0] 49;generalize w.alloc (.cells #[.int .i64 0,.string ⟨#[]⟩,.int .i64 0,.int .i64 0,.string ⟨#[]⟩,.string ⟨#[]⟩,.slice none 0 0,.int .i64 0,.int .i64 0,.int .i64 0,.string ⟨#[]⟩,.string ⟨#[]⟩,.slice none 0 0,.int .i64 0,.slice none 0 0,.slice none 0 0,.slice none 0 0,.slice none 0 0,.int .i64 0] 49)=w4 at *;have hg:=gr_of (row:=some w.heap.size) hb;have Z3:=qh (And.intro hz Z1.out);have X4:=qh hx;clear hb hx hz;have P5:=pgq hg Z1 P1;clear P1;have G6:=hgq hg G1 Z1;clear G1;have Z7:=hzz hg Z3;clear hg;go_upto_region 2 with ((with_reducible refine m_new 49 5 8 ?_ ?_ ?_ (sC ⟨9,nm,⟨0,0,[],[],⟨none,0,0⟩,0⟩,⟨0,0,[],[],⟨none,0,0⟩,0⟩,⟨none,0,0⟩,⟨none,0,0⟩,⟨none,0,0⟩,⟨none,0,0⟩,0⟩) ?_ ?_ ?_ ?_ (sC_one _) ?_);rfl;rfl;rfl;rfl;rfl;rfl;kernel_rfl;intro w5 hx hb hz)
 have hg:=gr_of (row:=some w4.heap.size) hb;have Z8:=qh (And.intro hz Z7.out);have X9:=qh hx;clear hb hx hz;replace X4:=hbq hg Z7 X4;replace P5:=pgq hg Z7 P5;replace G6:=hgq hg G6 Z7;have Z13:=hzz hg Z8;clear hg;by_cases hw:txt r=[41]
 ·skip
  have hq:=HR2.out;rw [if_pos hw] at hq;have HR14:=qh hq;clear hq HR2;have R15:=qh (R1.out.drop (txt_kind hw (by decide)));go_wp2_with (go_at_call 76;fail)
  refine (take_yes P5.out R1.out (hyq R1 hw) (txt_kind hw (by decide))).mono ?_;rintro e w6 ⟨rfl,hp,hg⟩;have P16:=qh hp;replace X4:=hbq hg Z13 X4;replace X9:=hbq hg Z13 X9;clear P5;replace G6:=gtr G6 hg;have Z20:=hzz hg Z13;clear hg hp R1;generalize ((r).drop 1)=r21 at *;go_wp2_with (first|((with_reducible refine m_load X9.out 49 5 ?_ ?_ ?_ ?_ ?_ ?_);rfl;rfl;rfl;rfl;kernel_rfl)|((with_reducible refine m_store X4.out 49 4 11 ?_ ?_ ?_ (sC ⟨9,nm,⟨0,0,[],[],⟨none,0,0⟩,0⟩,⟨0,0,[],[],⟨none,0,0⟩,0⟩,⟨none,0,0⟩,⟨none,0,0⟩,⟨none,0,0⟩,⟨none,0,0⟩,0⟩) ?_ ?_ ?_ ?_ (sC_one _) ?_);rfl;rfl;rfl;rfl;rfl;rfl;kernel_rfl;intro w7 hx hg hs))
  have X22:=qh hx;have Z23:=qh (And.intro hs Z20.out);clear hx hs X4;replace X9:=hbq hg Z20 X9;replace P16:=pgq hg Z20 P16;replace G6:=hgq hg G6 Z20;have Z27:=hzz hg Z23;clear hg;refine bodyPost_ret (k.results_cell rfl rfl (run_loadVar_mid _ w.heap.size 0 49 _ _ X22.out.range rfl rfl (by kernel_rfl))) rfl ?_;refine Gv.okOf HR14.out.symm ⟨fun _=>rfl,⟨9,nm,⟨0,0,[],[],⟨none,0,0⟩,0⟩,⟨0,0,[],[],⟨none,0,0⟩,0⟩,⟨none,0,0⟩,⟨none,0,0⟩,⟨none,0,0⟩,⟨none,0,0⟩,0⟩,rfl,?_⟩ P16.out R15.out G6.out;unfold StB;exact ⟨rfl,rfl,rfl,zeroE_B _ _,zeroE_B _ _,ExLB.none_ _ _,⟨[],RB.none_ _ _ _ _,rfl⟩,RB.none_ _ _ _ _,[],RB.none_ _ _ _ _,BlksB.nil⟩
 have hq:=HR2.out;rw [if_neg hw] at hq;have HR14:=qh hq;clear hq HR2;go_wp2_with (go_at_call 76;fail)
 refine (take_no P5.out R1.out (hnq R1 hw)).mono ?_;rintro e w6 ⟨rfl,hb⟩;have hg:=gr_of (row:=some w5.heap.size) hb;replace X4:=hbq hg Z13 X4;replace X9:=hbq hg Z13 X9;replace P5:=pgq hg Z13 P5;replace G6:=hgq hg G6 Z13;have Z19:=hzz hg Z13;clear hg hb;go_upto_region 5 with (fail)
 go_loopw [6] (fun s6 wr=>∃ (m:Bool) (fs:List Str) (cs:List Ex) (CH:List EH) (Fs Cs:Sl) (r':Sg) (fc:Nat),s6=.bool m∧(m=true→(argsF fc d r' fs cs).bind (fun a r'=>(need [41] r').bind fun _ r'=>.ok (fun ln=>St.mk 9 nm zeroE zeroE a.2 [] a.1 [] ln) r')=R∧20*r'.length+10≤fc∧fc≤f)∧(m=false→(need [41] r').bind (fun _ r'=>.ok (fun ln=>St.mk 9 nm zeroE zeroE cs [] fs [] ln) r')=R)∧fs.length+r'.length≤r.length∧cs.length+r'.length≤r.length∧RowOk r'∧Par wr g r' V d∧Box wr w.heap.size 0 [.int .i64 0,.string ⟨#[]⟩,.int .i64 0,.int .i64 0,.string ⟨#[]⟩,.string ⟨#[]⟩,.slice none 0 0,.int .i64 0,.int .i64 0,.int .i64 0,.string ⟨#[]⟩,.string ⟨#[]⟩,.slice none 0 0,.int .i64 0,.slice none 0 0,.slice none 0 0,.slice none 0 0,.slice none 0 0,.int .i64 0]∧Box wr w4.heap.size 0 (sC ⟨9,nm,⟨0,0,[],[],⟨none,0,0⟩,0⟩,⟨0,0,[],[],⟨none,0,0⟩,0⟩,Cs,⟨none,0,0⟩,Fs,⟨none,0,0⟩,0⟩)∧Ow tC1 1 9 wr w6.heap.size (Sl.v Fs) fs∧Ow eC 6 44 wr w6.heap.size (Sl.v Cs) CH∧ExsB wr (Ny w6.heap.size wr.heap.size [(Sl.v Fs),(Sl.v Cs)]) cs CH∧w.grownBy wr (some g)∧w6.heap.size≤wr.heap.size) (fun _ wr=>rowLen wr g)
 case atStart=>exact ⟨true,[],[],[],⟨none,0,0⟩,⟨none,0,0⟩,r,f,rfl,fun _=>⟨HR14.out,HF.out,Nat.le_refl _⟩,(fun h=>by cases h),by simp,by simp,R1.out,P5.out,X4.out,X9.out,Ow.nil _ _ _ _ _,Ow.nil _ _ _ _ _,rfl,G6.out,Nat.le_refl _⟩
 case round=>
  obtain ⟨m,fs,cs,CH,Fs,Cs,r',fc,rfl,hm1,hm2,hl1,hl2,hr',hP',hX0,hX1,hO1,hO2,hT',hG',hS'⟩:=hrel;clear P5 G6 R1 HR14 X4 X9;have P1:=qh hP';have X1:=qh hX0;have X2:=qh hX1;have O1:=qh hO1;have O2:=qh hO2;have OH1:=qh hO1;have OH2:=qh hO2;have E1:=qh hT';have G1:=qh hG';have R1:=qh hr';have HL1:=qh hl1;have HL2:=qh hl2;have ZS:=qh (And.intro hS' Z19.out);clear hP' hX0 hX1 hO1 hO2 hT' hG' hr' hl1 hl2 hS';have NLEN:=qh P1.out.len;cases m
  ·skip
   have HR:=qh (hm2 rfl);clear hm1 hm2;by_cases hs301:txt (r')=[41]
   rotate_left
   ·have hq:=HR.out
    rw [need_badE hs301] at hq;go_wp2_with (go_at_call 47;fail)
    refine (need_no P1.out R1.out (hnq R1 hs301)).mono ?_;rintro e w7 ⟨rfl,hb⟩;go_wp2;exact ⟨rfl,Gv.badOf hq.symm (gr_trans G1.out (gr_of hb))⟩
   have hq:=HR.out;rw [need_okE hs301,bind_okE] at hq;have HR302:=qh hq;clear hq HR;have R303:=qh (R1.out.drop (txt_kind hs301 (by decide)));go_wp2_with (go_at_call 47;fail)
   refine (need_yes P1.out R1.out (hyq R1 hs301)).mono ?_;rintro e w7 ⟨rfl,hp,hg⟩;have P304:=qh hp;replace X1:=hbq hg ZS X1;replace X2:=hbq hg ZS X2;replace E1:=ekz hg ZS E1;replace O1:=oqq hg ZS O1;replace O2:=oqq hg ZS O2;clear P1;replace G1:=gtr G1 hg;have Z311:=hzz hg ZS;clear hg hp R1;generalize ((r').drop 1)=r312 at *;go_wp2_with (first|((with_reducible refine m_load X2.out 49 5 ?_ ?_ ?_ ?_ ?_ ?_);rfl;rfl;rfl;rfl;kernel_rfl)|((with_reducible refine m_store X1.out 49 4 34 ?_ ?_ ?_ (sC ⟨9,nm,⟨0,0,[],[],⟨none,0,0⟩,0⟩,⟨0,0,[],[],⟨none,0,0⟩,0⟩,Cs,⟨none,0,0⟩,Fs,⟨none,0,0⟩,0⟩) ?_ ?_ ?_ ?_ (sC_one _) ?_);rfl;rfl;rfl;rfl;rfl;rfl;kernel_rfl;intro w8 hx hg hs))
   have X313:=qh hx;have Z314:=qh (And.intro hs Z311.out);clear hx hs X1;replace X2:=hbq hg Z311 X2;replace E1:=ekz hg Z311 E1;have O317:=oqq hg Z311 O1;clear O1;replace O2:=oqq hg Z311 O2;replace P304:=pgq hg Z311 P304;replace G1:=hgq hg G1 Z311;have Z321:=hzz hg Z314;clear hg;refine bodyPost_ret (k.results_cell rfl rfl (run_loadVar_mid _ w.heap.size 0 49 _ _ X313.out.range rfl rfl (by kernel_rfl))) rfl ?_;refine Gv.okOf HR302.out.symm ⟨fun _=>rfl,⟨9,nm,⟨0,0,[],[],⟨none,0,0⟩,0⟩,⟨0,0,[],[],⟨none,0,0⟩,0⟩,Cs,⟨none,0,0⟩,Fs,⟨none,0,0⟩,0⟩,rfl,?_⟩ P304.out R303.out G1.out;unfold StB;exact ⟨rfl,rfl,rfl,zeroE_B _ _,zeroE_B _ _,⟨CH,rb_own eC_len O2.out (qq Z321) (Nat.le_refl _),(ExsB.kept (ny_nw (qq Z321) (qq Z321)) E1.out)⟩,⟨[],RB.none_ _ _ _ _,rfl⟩,rb_own tC1_len O317.out (qq Z321) (Nat.le_refl _),[],RB.none_ _ _ _ _,BlksB.nil⟩
  ·skip
   obtain ⟨hq,hfc,hfc2⟩:=hm1 rfl;obtain ⟨f2,rfl⟩:∃ k,fc=k+1:=⟨fc-1,by omega⟩;rw [argsF] at hq;simp only [bind_bind] at hq;have HR:=qh hq;have HFC:=qh hfc;have HFC2:=qh hfc2;clear hm1 hm2 hq hfc hfc2;go_upto_region 7 with (fail)
   refine wp_region_T (by kernel_rfl) (fun w'=>Box w' (w4.heap.size) 0 (sC ⟨9,nm,⟨0,0,[],[],⟨none,0,0⟩,0⟩,⟨0,0,[],[],⟨none,0,0⟩,0⟩,Cs,⟨none,0,0⟩,Fs,⟨none,0,0⟩,0⟩)) [8] (box_drew X2.out) (fun hHeld=>?_);have hb:=(Below.refl wr.heap.size wr).drew;generalize wr.drew=w7 at *;have hg:=gr_of (row:=some wr.heap.size) hb;replace X1:=hbq hg ZS X1;replace X2:=hbq hg ZS X2;replace E1:=ekz hg ZS E1;replace O1:=oqq hg ZS O1;replace O2:=oqq hg ZS O2;replace P1:=pgq hg ZS P1;replace G1:=hgq hg G1 ZS;have Z308:=hzz hg ZS;clear hg hb;refine tkr (i:=0) rfl ?_;try simp only [lq0,lq7,lq1,lq2,lq3,lq4,lq5,lq6]
   refine tkq (i:=1) (v:=?_) rfl ?_ ?_;rotate_left 1
   ·intro w_ hSw;obtain ⟨c16,_⟩:=cell_of hSw (i:=16) rfl;go_simp<;>(with_reducible rfl)
   try simp only [lq0,lq7,lq1,lq2,lq3,lq4,lq5,lq6]
   refine tkr (i:=2) rfl ?_;try simp only [lq0,lq7,lq1,lq2,lq3,lq4,lq5,lq6]
   have f1:=tok_f1 (tr.hd r');refine wpAnyT_ready (rs:=[3]) (by kernel_rfl) (by simp) ?_;refine AllReadyT.cons rfl (fun K hK=>?_) AllReadyT.nil;have hl0:=drop_len r';have HLD:=qh hl0;have HLR:=qh R1.out.len;clear hl0;by_cases hs309:(tr.hd (r')).kind=1
   rotate_left
   ·have hq:=HR.out
    rw [want_badE hs309] at hq;go_simp;go_at_call 47
    refine (need_no P1.out R1.out (mt (headS_kind R1.out).1.1 hs309)).mono ?_;rintro e w8 ⟨rfl,hb⟩;go_wp2;exact ⟨rfl,Gv.badOf hq.symm (gr_trans G1.out (gr_of hb))⟩
   have hq:=HR.out;rw [want_okE hs309,bind_okE] at hq;have HR310:=qh hq;clear hq HR;have R311:=qh (R1.out.drop (by rw [hs309];decide));go_simp;go_at_call 47
   refine (need_yes P1.out R1.out ((headS_kind R1.out).1.2 hs309)).mono ?_;rintro e w8 ⟨rfl,hp,hg⟩;have P312:=qh hp;have X313:=hbq hg Z308 X1;clear X1;replace X2:=hbq hg Z308 X2;replace E1:=ekz hg Z308 E1;replace O1:=oqq hg Z308 O1;have O317:=oqq hg Z308 O2;clear O2 P1;replace G1:=gtr G1 hg;have Z319:=hzz hg Z308;clear hg hp R1;generalize ((r').drop 1)=r320 at *;go_wp2_with fail
   refine hK.out _ _ X2.out (fun hHeld=>?_);clear hK K;try simp only [lq0,lq7,lq1,lq2,lq3,lq4,lq5,lq6]
   refine tkr (i:=4) rfl ?_;try simp only [lq0,lq7,lq1,lq2,lq3,lq4,lq5,lq6]
   refine wpAnyT_ready (rs:=[5]) (by kernel_rfl) (by simp) ?_;refine AllReadyT.cons rfl (fun K hK=>?_) AllReadyT.nil;refine t_slice1 (enc:=tC1) (z:=1) (tr.hd (r')).text 46 9 19 (.string ⟨(tr.hd (r')).text.toArray⟩) (tC1 (tr.hd (r')).text).toArray rfl rfl rfl (bs_T1 (tr.hd (r')).text) rfl ?_;intro w9 hrb hb1 hz1;have HRB:=qh hrb;have HB1:=qh hb1;have HZ1:=qh hz1;clear hrb hb1 hz1;have hg:=gr_of (row:=some w8.heap.size) HB1.out;have Z321:=qh (And.intro HZ1.out Z319.out);have E322:=HRB;clear HZ1 HRB;replace X313:=hbq hg Z319 X313;replace X2:=hbq hg Z319 X2;replace E1:=ekz hg Z319 E1;replace O1:=oqq hg Z319 O1;replace O317:=oqq hg Z319 O317;replace P312:=pgq hg Z319 P312;replace G1:=hgq hg G1 Z319;have Z330:=hzz hg Z321;clear hg HB1;refine hK.out _ _ X2.out (fun hHeld=>?_);clear hK K;try simp only [lq0,lq7,lq1,lq2,lq3,lq4,lq5,lq6]
   have LM:=qh (show fs.length+[(tr.hd (r')).text].length≤60000 by have:=HL1.out;have:=HL.out;simp only [List.length_cons,List.length_nil];omega);refine wpAnyT_ready (rs:=[6]) (by kernel_rfl) (by simp) ?_;refine AllReadyT.cons rfl (fun K hK=>?_) AllReadyT.nil;have Z332:=qh (And.intro (show w6.heap.size≤w9.heap.size from (qq Z330)) Z330.out);refine step_append_row tC1_len (by decide) tC1_one strs_slice str_info rfl (by decide) _ rfl (.tmp 16) (.tmp 20) rfl w6.heap.size (Sl.v Fs) fs rfl O1.out (w8.heap.size+1) (some ⟨w8.heap.size,0,none⟩) 1 1 [(tr.hd (r')).text] rfl (RB.toAt (fun b hb=>hb.2) E322.out) LM.out Z332.out.1 ?_;intro v8 w10 hown hgA hat;have HOWN:=qh hown;have HGA:=qh hgA;have HAT:=qh hat;clear hown hgA hat;obtain ⟨S333,hsv⟩:=Ow.sl tC1_len HOWN.out;subst hsv;obtain ⟨q9,hq1,hq2,hg⟩:=grow_q O1.out (qq Z332) HGA.out;have HQ2:=qh hq2;have Z334:=qh (And.intro hq1 Z332.out);have Z335:=qh (And.intro (show q9<wr.heap.size∨w9.heap.size≤q9 from hq2.imp (fun e=>(Ow.lt OH1.out e).2) id) Z334.out);clear hq1 hq2;have HOB336:=qh (show ∀ q0,(Sl.v S333).ownBlock=some q0→q0<wr.heap.size∨w9.heap.size≤q0 from fun q0 e0=>HAT.out.elim (fun h=>.inl (Ow.lt OH1.out (h.symm.trans e0)).2) (fun h=>.inr (by rw [h] at e0;injection e0 with e0;omega)));have E337:=qh (ExsB.kept (kept_ny hg (HQ2.out.elim (fun e=>.inr (.inr ⟨(Sl.v Fs),by simp,e⟩)) (fun h=>.inr (.inl (qq Z335)))) (qq Z335)) E1.out);have E338:=qh (ExsB.kept (ny_ny (O:=[(Sl.v Fs),(Sl.v Cs)]) (O':=[(Sl.v S333),(Sl.v Cs)]) (Nat.le_refl _) (Nat.le_refl _) (by
    intro v0 hv0 q0 e0 hq0;simp only [List.mem_cons,List.not_mem_nil,or_false] at hv0;rcases hv0 with rfl|rfl
    ·rcases HAT.out with h|h
     ·exact ⟨_,by simp,h.symm.trans e0⟩
     ·rw [h] at e0;injection e0 with e0;exfalso;have z:=Z335.out;omega
    ·exact ⟨_,by simp,e0⟩)) E337.out)
   clear E1 E337;have O339:=qh (Ow.gr2 O317.out hg (HQ2.out.elim (fun e=>Ow.apart O1.out O317.out (by decide) e) (fun h e2=>by have h9:=(Ow.lt O317.out e2).2;have z:=Z335.out;omega)));clear O317;replace X313:=hbq hg Z335 X313;replace X2:=hbq hg Z335 X2;replace E322:=hrq hg Z335 E322;replace P312:=pgq hg Z335 P312;replace G1:=hgq hg G1 Z335;have Z345:=hzz hg Z335;have O346:=HOWN;clear hg HOWN HGA HQ2 HAT O1;refine hK.out _ _ X2.out (fun hHeld=>?_);clear hK K;try simp only [lq0,lq7,lq1,lq2,lq3,lq4,lq5,lq6]
   refine tkr (i:=7) rfl ?_;try simp only [lq0,lq7,lq1,lq2,lq3,lq4,lq5,lq6]
   refine wpAnyT_ready (rs:=[8]) (by kernel_rfl) (by simp) ?_;refine AllReadyT.spoilt rfl (by kernel_rfl) (fun K hK=>?_) AllReadyT.nil;refine t_set1 (j:=16) X2.out (show 16<19 by decide) 46 22 21 rfl rfl rfl (Sl.v S333) rfl rfl (by first|rfl|(cases S333;rfl)) (by kernel_rfl) ?_;intro w11 hx hg hs;have hx:Box w11 (w4.heap.size) 0 (sC ⟨9,nm,⟨0,0,[],[],⟨none,0,0⟩,0⟩,⟨0,0,[],[],⟨none,0,0⟩,0⟩,Cs,⟨none,0,0⟩,S333,⟨none,0,0⟩,0⟩):=hx;have X347:=qh hx;have Z348:=qh (And.intro hs Z345.out);clear hx hs X2;replace X313:=hbq hg Z345 X313;replace E338:=ekz hg Z345 E338;replace E322:=hrq hg Z345 E322;replace O346:=oqq hg Z345 O346;replace O339:=oqq hg Z345 O339;replace P312:=pgq hg Z345 P312;replace G1:=hgq hg G1 Z345;have Z356:=hzz hg Z348;clear hg;refine hK.out _ _ ?_;clear hK K;try simp only [lq0,lq7,lq1,lq2,lq3,lq4,lq5,lq6]
   refine wpAnyT_done (by kernel_rfl) ?_ _;clear f1 LM;have hl0:=drop_len r320;have HLD2:=qh hl0;clear hl0;by_cases hs357:txt (r320)=[58,61]
   rotate_left
   ·have hq:=HR310.out
    rw [need_badE hs357] at hq;go_wp2_with (go_at_call 47;fail)
    refine (need_no P312.out R311.out (hnq R311 hs357)).mono ?_;rintro e w12 ⟨rfl,hb⟩;go_wp2;exact ⟨rfl,Gv.badOf hq.symm (gr_trans G1.out (gr_of hb))⟩
   have hq:=HR310.out;rw [need_okE hs357,bind_okE] at hq;have HR358:=qh hq;clear hq HR310;have R359:=qh (R311.out.drop (txt_kind hs357 (by decide)));go_wp2_with (go_at_call 47;fail)
   refine (need_yes P312.out R311.out (hyq R311 hs357)).mono ?_;rintro e w12 ⟨rfl,hp,hg⟩;have P360:=qh hp;replace X313:=hbq hg Z356 X313;replace X347:=hbq hg Z356 X347;replace E338:=ekz hg Z356 E338;replace E322:=hrq hg Z356 E322;replace O346:=oqq hg Z356 O346;replace O339:=oqq hg Z356 O339;clear P312;replace G1:=gtr G1 hg;have Z368:=hzz hg Z356;clear hg hp R311;generalize ((r320).drop 1)=r369 at *;go_upto_region 9 with (fail)
   refine wp_region_T (by kernel_rfl) (fun w'=>Box w' (w4.heap.size) 0 (sC ⟨9,nm,⟨0,0,[],[],⟨none,0,0⟩,0⟩,⟨0,0,[],[],⟨none,0,0⟩,0⟩,Cs,⟨none,0,0⟩,S333,⟨none,0,0⟩,0⟩)) [7] (box_drew X347.out) (fun hHeld=>?_);have hb:=(Below.refl w12.heap.size w12).drew;generalize w12.drew=w13 at *;have hg:=gr_of (row:=some w12.heap.size) hb;replace X313:=hbq hg Z368 X313;replace X347:=hbq hg Z368 X347;replace E338:=ekz hg Z368 E338;replace E322:=hrq hg Z368 E322;replace O346:=oqq hg Z368 O346;replace O339:=oqq hg Z368 O339;replace P360:=pgq hg Z368 P360;replace G1:=hgq hg G1 Z368;have Z378:=hzz hg Z368;clear hg hb;refine tkr (i:=0) rfl ?_;try simp only [lq0,lq7,lq1,lq2,lq3,lq4,lq5,lq6]
   refine tkq (i:=1) (v:=?_) rfl ?_ ?_;rotate_left 1
   ·intro w_ hSw;obtain ⟨c14,_⟩:=cell_of hSw (i:=14) rfl;go_simp<;>(with_reducible rfl)
   try simp only [lq0,lq7,lq1,lq2,lq3,lq4,lq5,lq6]
   refine tkr (i:=2) rfl ?_;try simp only [lq0,lq7,lq1,lq2,lq3,lq4,lq5,lq6]
   refine wpAnyT_ready (rs:=[3]) (by kernel_rfl) (by simp) ?_;refine AllReadyT.cons rfl (fun K hK=>?_) AllReadyT.nil;have FI:=qh (fin_expr (d:=d) (f:=f2) (r:=r369) (by have z:=Z378.out;have:=HFC.out;have:=HLD.out;have:=HLD2.out;have:=HLR.out;omega));have HOB379:=qh (show ∀ q0,(Sl.v S333).ownBlock=some q0→q0<w13.heap.size from fun q0 e0=>(Ow.lt O346.out e0).2);go_simp;go_at_call 162
   refine (expr_gets (f:=f2) (d:=d) hd R359.out (by have z:=Z378.out;have:=HFC.out;have:=HLD.out;have:=HLD2.out;have:=HLR.out;omega) _ _ _ P360.out).mono ?_;rintro e w14 hgv;rcases hp:expr f2 d r369 with ⟨x8,r8⟩|⟨n9,t9⟩
   rotate_left
   ·rw [hp] at hgv
    obtain ⟨rfl,hg⟩:=hgv;have hq:=HR358.out;rw [hp] at hq;go_wp2;exact ⟨rfl,Gv.badOf hq.symm (gr_trans G1.out hg)⟩
   rw [hp] at hgv;obtain ⟨⟨v9,rfl,hG⟩,hP9,hr9,hg⟩:=hgv;have hq:=HR358.out;rw [hp] at hq;try rw [bind_okE] at hq
   have HR380:=qh hq;clear hq HR358;have P381:=qh hP9;have R382:=qh hr9;replace X313:=hbq hg Z378 X313;replace X347:=hbq hg Z378 X347;replace E338:=ekz hg Z378 E338;replace E322:=hrq hg Z378 E322;replace O346:=oqq hg Z378 O346;replace O339:=oqq hg Z378 O339;clear P360;replace G1:=gtr G1 hg;have Z390:=hzz hg Z378;clear hg hP9 hr9 R359;obtain ⟨h391,rfl,hE9⟩:=hG;have E392:=qh hE9;clear hE9;have L8:Hid (r8.length<r369.length):=by
    have:=FI.out;rw [hp] at this;exact qh this
   clear FI hp;go_wp2_with fail
   refine hK.out _ _ X347.out (fun hHeld=>?_);clear hK K;try simp only [lq0,lq7,lq1,lq2,lq3,lq4,lq5,lq6]
   refine wpAnyT_ready (rs:=[4]) (by kernel_rfl) (by simp) ?_;refine AllReadyT.cons rfl (fun K hK=>?_) AllReadyT.nil;refine t_slice1 (enc:=eC) (z:=6) h391 42 44 28 (.agg (eC h391).toArray) (eC h391).toArray rfl rfl rfl (bs_E h391) rfl ?_;intro w15 hrb hb1 hz1;have HRB:=qh hrb;have HB1:=qh hb1;have HZ1:=qh hz1;clear hrb hb1 hz1;have hg:=gr_of (row:=some w14.heap.size) HB1.out;have Z394:=qh (And.intro HZ1.out Z390.out);have E395:=HRB;clear HZ1 HRB;replace X313:=hbq hg Z390 X313;replace X347:=hbq hg Z390 X347;replace E338:=ekz hg Z390 E338;replace E322:=hrq hg Z390 E322;replace E392:=heq hg Z390 E392;replace O346:=oqq hg Z390 O346;replace O339:=oqq hg Z390 O339;replace P381:=pgq hg Z390 P381;replace G1:=hgq hg G1 Z390;have Z405:=hzz hg Z394;clear hg HB1;refine hK.out _ _ X347.out (fun hHeld=>?_);clear hK K;try simp only [lq0,lq7,lq1,lq2,lq3,lq4,lq5,lq6]
   have LM:=qh (show CH.length+[h391].length≤60000 by have:=exsB_len E338.out;have:=HL2.out;have:=HL.out;simp only [List.length_cons,List.length_nil];omega);refine wpAnyT_ready (rs:=[5]) (by kernel_rfl) (by simp) ?_;refine AllReadyT.cons rfl (fun K hK=>?_) AllReadyT.nil;have Z407:=qh (And.intro (show w6.heap.size≤w15.heap.size from (qq Z405)) Z405.out);refine step_append_row eC_len (by decide) eC_one exprs_slice expr_info rfl (by decide) _ rfl (.tmp 26) (.tmp 29) rfl w6.heap.size (Sl.v Cs) CH rfl O339.out (w14.heap.size+1) (some ⟨w14.heap.size,0,none⟩) 1 1 [h391] rfl (RB.toAt (fun b hb=>hb.2) E395.out) LM.out Z407.out.1 ?_;intro v8 w16 hown hgA hat;have HOWN:=qh hown;have HGA:=qh hgA;have HAT:=qh hat;clear hown hgA hat;obtain ⟨S408,hsv⟩:=Ow.sl eC_len HOWN.out;subst hsv;obtain ⟨q9,hq1,hq2,hg⟩:=grow_q O339.out (qq Z407) HGA.out;have HQ2:=qh hq2;have Z409:=qh (And.intro hq1 Z407.out);have Z410:=qh (And.intro (show q9<wr.heap.size∨w15.heap.size≤q9 from hq2.imp (fun e=>(Ow.lt OH2.out e).2) id) Z409.out);clear hq1 hq2;have HOB411:=qh (show ∀ q0,(Sl.v S408).ownBlock=some q0→q0<wr.heap.size∨w15.heap.size≤q0 from fun q0 e0=>HAT.out.elim (fun h=>.inl (Ow.lt OH2.out (h.symm.trans e0)).2) (fun h=>.inr (by rw [h] at e0;injection e0 with e0;omega)));have E412:=qh (ExsB.kept (kept_ny hg (HQ2.out.elim (fun e=>.inr (.inr ⟨(Sl.v Cs),by simp,e⟩)) (fun h=>.inr (.inl (qq Z410)))) (qq Z410)) E338.out);have E413:=qh (ExsB.kept (ny_ny (O:=[(Sl.v S333),(Sl.v Cs)]) (O':=[(Sl.v S333),(Sl.v S408)]) (Nat.le_refl _) (Nat.le_refl _) (by
    intro v0 hv0 q0 e0 hq0;simp only [List.mem_cons,List.not_mem_nil,or_false] at hv0;rcases hv0 with rfl|rfl
    ·exact ⟨_,by simp,e0⟩
    ·rcases HAT.out with h|h
     ·exact ⟨_,by simp,h.symm.trans e0⟩
     ·rw [h] at e0;injection e0 with e0;exfalso;have z:=Z410.out;omega)) E412.out)
   clear E338 E412;have O414:=qh (Ow.gr2 O346.out hg (HQ2.out.elim (fun e=>Ow.apart O339.out O346.out (by decide) e) (fun h e2=>by have h9:=(Ow.lt O346.out e2).2;have z:=Z410.out;omega)));clear O346;replace X313:=hbq hg Z410 X313;replace X347:=hbq hg Z410 X347;replace E322:=hrq hg Z410 E322;replace E392:=heq hg Z410 E392;replace E395:=hrq hg Z410 E395;replace P381:=pgq hg Z410 P381;replace G1:=hgq hg G1 Z410;have Z422:=hzz hg Z410;have O423:=HOWN;clear hg HOWN HGA HQ2 HAT O339;refine hK.out _ _ X347.out (fun hHeld=>?_);clear hK K;try simp only [lq0,lq7,lq1,lq2,lq3,lq4,lq5,lq6]
   refine tkr (i:=6) rfl ?_;try simp only [lq0,lq7,lq1,lq2,lq3,lq4,lq5,lq6]
   refine wpAnyT_ready (rs:=[7]) (by kernel_rfl) (by simp) ?_;refine AllReadyT.spoilt rfl (by kernel_rfl) (fun K hK=>?_) AllReadyT.nil;refine t_set1 (j:=14) X347.out (show 14<19 by decide) 42 31 30 rfl rfl rfl (Sl.v S408) rfl rfl (by first|rfl|(cases S408;rfl)) (by kernel_rfl) ?_;intro w17 hx hg hs;have hx:Box w17 (w4.heap.size) 0 (sC ⟨9,nm,⟨0,0,[],[],⟨none,0,0⟩,0⟩,⟨0,0,[],[],⟨none,0,0⟩,0⟩,S408,⟨none,0,0⟩,S333,⟨none,0,0⟩,0⟩):=hx;have X424:=qh hx;have Z425:=qh (And.intro hs Z422.out);clear hx hs X347;replace X313:=hbq hg Z422 X313;replace E413:=ekz hg Z422 E413;replace E322:=hrq hg Z422 E322;replace E392:=heq hg Z422 E392;replace E395:=hrq hg Z422 E395;replace O414:=oqq hg Z422 O414;replace O423:=oqq hg Z422 O423;replace P381:=pgq hg Z422 P381;replace G1:=hgq hg G1 Z422;have Z435:=hzz hg Z425;clear hg;refine hK.out _ _ ?_;clear hK K;try simp only [lq0,lq7,lq1,lq2,lq3,lq4,lq5,lq6]
   refine wpAnyT_done (by kernel_rfl) ?_ _;by_cases hw4:txt r8=[44]
   ·skip
    have hq:=HR380.out;rw [if_pos hw4] at hq;have HR436:=qh hq;clear hq HR380;have hl0:=drop_len r8;have HLX:=qh hl0;have HLY:=qh R382.out.len;clear hl0;have R437:=qh (R382.out.drop (txt_kind hw4 (by decide)));go_wp2_with (go_at_call 76;fail)
    refine (take_yes P381.out R382.out (hyq R382 hw4) (txt_kind hw4 (by decide))).mono ?_;rintro e w18 ⟨rfl,hp,hg⟩;have P438:=qh hp;replace X313:=hbq hg Z435 X313;replace X424:=hbq hg Z435 X424;have E441:=ekz hg Z435 E413;clear E413;have E442:=hrq hg Z435 E322;clear E322;replace E392:=heq hg Z435 E392;replace E395:=hrq hg Z435 E395;replace O414:=oqq hg Z435 O414;replace O423:=oqq hg Z435 O423;clear P381;replace G1:=gtr G1 hg;have Z448:=hzz hg Z435;clear hg hp R382;generalize ((r8).drop 1)=r449 at *;go_wp2_with fail
    go_roundw
    case rel=>exact ⟨true,_,_,_,_,_,_,f2,rfl,fun _=>⟨HR436.out,(by have z:=Z448.out;have:=HFC.out;have:=HLD.out;have:=HLD2.out;have:=HLR.out;have:=L8.out;have:=HL1.out;have:=HL2.out;have:=HLX.out;have:=HLY.out;omega),(by have z:=Z448.out;have:=HFC2.out;omega)⟩,(fun h=>by cases h),(by have z:=Z448.out;have:=HLD.out;have:=HLD2.out;have:=HLR.out;have:=L8.out;have:=HL1.out;have:=HL2.out;have:=HLX.out;have:=HLY.out;simp only [List.length_append,List.length_cons,List.length_nil];omega),(by have z:=Z448.out;have:=HLD.out;have:=HLD2.out;have:=HLR.out;have:=L8.out;have:=HL1.out;have:=HL2.out;have:=HLX.out;have:=HLY.out;simp only [List.length_append,List.length_cons,List.length_nil];omega),R437.out,P438.out,X313.out,X424.out,O414.out,O423.out,ExsB.snoc (ExB.kept (nw_ny (O:=[(Sl.v S333),(Sl.v S408)]) (qq Z448) (qq Z448) (by
     intro v0 hv0 q0 e0;simp only [List.mem_cons,List.not_mem_nil,or_false] at hv0;rcases hv0 with rfl|rfl
     ·have h9:=HOB379.out q0 e0;have z:=Z448.out;omega
     ·have h9:=HOB411.out q0 e0;have z:=Z448.out;omega)) E392.out) (ExsB.kept (ny_ny (O:=[(Sl.v S333),(Sl.v S408)]) (O':=[(Sl.v S333),(Sl.v S408)]) (Nat.le_refl _) (qq Z448) (fun v hv q e hq=>⟨v,hv,e⟩)) E441.out),G1.out,(qq Z448)⟩
    case measure=>rw [NLEN.out,P438.out.len];have z:=Z448.out;have:=HLD.out;have:=HLD2.out;have:=HLR.out;have:=L8.out;have:=HL1.out;have:=HL2.out;have:=HLX.out;have:=HLY.out;omega
   ·skip
    have hq:=HR380.out;rw [if_neg hw4,bind_okE] at hq;have HR436:=qh hq;clear hq HR380;go_wp2_with (go_at_call 76;fail)
    refine (take_no P381.out R382.out (hnq R382 hw4)).mono ?_;rintro e w18 ⟨rfl,hb⟩;have hg:=gr_of (row:=some w17.heap.size) hb;replace X313:=hbq hg Z435 X313;replace X424:=hbq hg Z435 X424;replace E413:=ekz hg Z435 E413;replace E322:=hrq hg Z435 E322;have E441:=heq hg Z435 E392;clear E392;have E442:=hrq hg Z435 E395;clear E395;replace O414:=oqq hg Z435 O414;replace O423:=oqq hg Z435 O423;replace P381:=pgq hg Z435 P381;replace G1:=hgq hg G1 Z435;have Z447:=hzz hg Z435;clear hg hb;go_wp2_with fail
    go_roundw
    case rel=>exact ⟨false,_,_,_,_,_,_,f2,rfl,(fun h=>by cases h),fun _=>HR436.out,(by have z:=Z447.out;have:=HLD.out;have:=HLD2.out;have:=HLR.out;have:=L8.out;have:=HL1.out;have:=HL2.out;simp only [List.length_append,List.length_cons,List.length_nil];omega),(by have z:=Z447.out;have:=HLD.out;have:=HLD2.out;have:=HLR.out;have:=L8.out;have:=HL1.out;have:=HL2.out;simp only [List.length_append,List.length_cons,List.length_nil];omega),R382.out,P381.out,X313.out,X424.out,O414.out,O423.out,ExsB.snoc (ExB.kept (nw_ny (O:=[(Sl.v S333),(Sl.v S408)]) (qq Z447) (qq Z447) (by
     intro v0 hv0 q0 e0;simp only [List.mem_cons,List.not_mem_nil,or_false] at hv0;rcases hv0 with rfl|rfl
     ·have h9:=HOB379.out q0 e0;have z:=Z447.out;omega
     ·have h9:=HOB411.out q0 e0;have z:=Z447.out;omega)) E441.out) (ExsB.kept (ny_ny (O:=[(Sl.v S333),(Sl.v S408)]) (O':=[(Sl.v S333),(Sl.v S408)]) (Nat.le_refl _) (qq Z447) (fun v hv q e hq=>⟨v,hv,e⟩)) E413.out),G1.out,(qq Z447)⟩
    case measure=>rw [NLEN.out,P381.out.len];have z:=Z447.out;have:=HLD.out;have:=HLD2.out;have:=HLR.out;have:=L8.out;have:=HL1.out;have:=HL2.out;omega
end
end tr
end Go.Proofs.YtdefgghhkknnpaaGreatDoor

/- The landed checks of statements and blocks. Conditions: the library's variable MaxLen holds some number; a statement has at most 2^40 parts. The landed writer's blocks, over what the statements give. Conditions: the statements are such that a text could give; what the writer holds stays within 2^47 bytes. The landed writer's choices, cases, counts and calls, over what the blocks give. Conditions: the statements are such that a text could give; what the writer holds stays within 2^47 bytes. The landed writer's cases, over what the blocks give. Conditions: the statement is such that a text could give; what the writer holds stays within 2^47 bytes. -/
import Derived.Test.YtdefgghhkknnpaaGreatDoorE09
set_option linter.unusedVariables false
set_option linter.unusedSimpArgs false
set_option maxRecDepth 100000
set_option maxHeartbeats 40000000
namespace Go.Proofs.YtdefgghhkknnpaaGreatDoor
namespace sh
open ChangeShapes WideShapes ChangeAt RowKit k rr tk tr
structure Kp (w W:World) (g:Nat) (LX LV:List Value):Prop where
  x:Box W w.heap.size 0 LX
  v:Box W g 0 LV
  b:Below w.heap.size w W
  z:w.heap.size<W.heap.size∧g<W.heap.size
theorem Kp.step {w W W':World} {g:Nat} {LX LV:List Value} (h:Kp w W g LX LV) (hb:Below W.heap.size W W'):Kp w W' g LX LV:=
  ⟨h.x.below hb h.z.1,h.v.below hb h.z.2,h.b.trans (hb.mono h.b.size),by have:=h.z;have:=hb.size;omega⟩
theorem oneIf_zero (b:Bool):(((oneIf (!b):Nat):Int)==0)=b:=by cases b<;>rfl
theorem stsB_at {L:List St} {i:Nat} (h:i<L.length):stsB (L.drop i)=((L[i]?.map stB).getD false&&stsB (L.drop (i+1))):=by
  rw [List.drop_eq_getElem_cons h,stsB,List.getElem?_eq_getElem h];rfl
theorem blksB_at {L:List (List St)} {i:Nat} (h:i<L.length):blksB (L.drop i)=((L[i]?.map stsB).getD false&&blksB (L.drop (i+1))):=by
  rw [List.drop_eq_getElem_cons h,blksB,List.getElem?_eq_getElem h];rfl
abbrev big:Nat:=1099511627776
def RiS (N:Nat):Prop:=∀ x:St,SizeOf.sizeOf x<N→wS x≤big→∀ (h:SH) (w:World),MaxL w→StAt w w.heap.size x h→Calls Tryz.prog 57 #[.agg (sC h).toArray] w fun e w'=>e=.returned (.bool (stB x))∧Below w.heap.size w w'
theorem block_right {N:Nat} (IH:RiS N) {L:List St} (hN:SizeOf.sizeOf L≤N) (hW:wsS L≤big) {s:Sl} {w:World} (hM:MaxL w) (h1:StL w w.heap.size s L) :
    Calls Tryz.prog 34 #[s.v] w fun e w'=>e=.returned (.bool (stsB L))∧Below w.heap.size w w':=by
  have AL:=qh (show Calls Tryz.prog 56 #[s.v,.func (.func 57) #[] #[]] w fun e w'=>e=.returned (.bool (stsB L))∧Below w.heap.size w w' from by
    obtain ⟨H,h1,h3⟩:=h1;have l1:L.length=s.l:=h3.len.symm.trans h1.1;refine all_s h1 (fun i=>stsB (L.drop i)) (fun i=>(L[i]?.map stB).getD false) _ rfl ?_ (fun i hi=>stsB_at (by omega)) (fun i a ha W hW'=>?_)
    · show stsB (L.drop s.l)=true
      rw [List.drop_of_length_le (by omega)];rfl
    · obtain ⟨x,hx,hxa⟩:=h3.at ha
      rw [at_get hx];exact IH x (by have:=at_size hx;omega) (by have:=wsS_mem (List.mem_of_getElem? hx);omega) a W (hM.below hW') (hxa.below hW' hW'.size))
  obtain ⟨A,n,c⟩:=s;simp only [Sl.v] at AL ⊢;clear h1 hM;go_enter Tryz.func34,Tryz.ntmps34
  go_wp2_with (go_at_call 56;fail)
  refine AL.out.mono ?_;rintro e w2 ⟨rfl,hb⟩;have B2:=qh hb;clear hb AL;go_wp2_with fail
  go_ret
  exact ⟨rfl,B2.out⟩
theorem blocks_right {N:Nat} (IH:RiS N) {L:List (List St)} (hN:SizeOf.sizeOf L≤N) (hW:wsB L≤big) {s:Sl} {w:World} (hM:MaxL w) {H:List Sl} (h1:RS slC 1 w w.heap.size s H) (h3:BlksAt w w.heap.size L H) :
    Calls Tryz.prog 95 #[s.v,.func (.func 34) #[] #[]] w fun e w'=>e=.returned (.bool (blksB L))∧Below w.heap.size w w':=by
  have l1:L.length=s.l:=h3.len.symm.trans h1.1;refine all_b h1 (fun i=>blksB (L.drop i)) (fun i=>(L[i]?.map stsB).getD false) _ rfl ?_ (fun i hi=>blksB_at (by omega)) (fun i a ha W hW'=>?_)
  · show blksB (L.drop s.l)=true
    rw [List.drop_of_length_le (by omega)];rfl
  · obtain ⟨x,hx,hxa⟩:=h3.at ha
    rw [at_get hx];exact block_right IH (by have:=at_size hx;omega) (by have:=wsB_mem (List.mem_of_getElem? hx);omega) (hM.below hW') (StL.below hxa hW' hW'.size)
theorem labels_right {L:List (List Int)} {s:Sl} {w:World} {H:List Sl} (h1:RS slC 1 w w.heap.size s H) (h3:LabsAt w w.heap.size L H) :
    Calls Tryz.prog 92 #[s.v,.func (.func 93) #[] #[]] w fun e w'=>e=.returned (.bool (L.all labB))∧Below w.heap.size w w':=by
  have l1:L.length=s.l:=h3.len.symm.trans h1.1;refine all_l h1 (fun i=>(L.drop i).all labB) (fun i=>(L[i]?.map labB).getD false) _ rfl ?_ (fun i hi=>row_all (by omega) _) (fun i a ha W hW'=>?_)
  · show (L.drop s.l).all labB=true
    rw [List.drop_of_length_le (by omega)];rfl
  · obtain ⟨x,hx,hxa⟩:=h3.at ha
    rw [at_get hx];exact rightLabels_any (hxa.below hW' hW'.size)
theorem names_right {L:List Str} {s:Sl} {w:World} (hM:MaxL w) (h1:RS tC1 1 w w.heap.size s L) :
    Calls Tryz.prog 94 #[s.v,.func (.func 31) #[] #[]] w fun e w'=>e=.returned (.bool (L.all nmB))∧Below w.heap.size w w':=by
  have l1:L.length=s.l:=h1.1;refine all_n h1 (fun i=>(L.drop i).all nmB) (fun i=>(L[i]?.map nmB).getD false) _ rfl ?_ (fun i hi=>row_all (by omega) _) (fun i a ha W hW'=>?_)
  · show (L.drop s.l).all nmB=true
    rw [List.drop_of_length_le (by omega)];rfl
  · rw [at_get ha]
    exact isName_any _ W (hM.below hW')
theorem right_s_step {N:Nat} (IH:RiS N):RiS (N+1):=by
  unfold RiS;intro x hN hwx h w hM hx;obtain ⟨xo,xnm,xd,xv,xcs,xls,xfs,xbs,xl⟩:=x;unfold StAt at hx;obtain ⟨h1,h2,h3,h4,h5,h6,⟨LH,h7,h8⟩,h9,BH,h10,h11⟩:=hx;subst h1 h2 h3;have PO:=qh fun W (hW:Below w.heap.size w W)=>partsOf_any (h:=h) (h4.below hW hW.size) (h5.below hW hW.size) (Nat.le_refl _)
  have lc:xcs.length=h.conds.l:=by obtain ⟨H,a,b⟩:=h6;exact b.len.symm.trans a.1
  have ll:xls.length=h.labels.l:=h8.len.symm.trans h7.1;have lf:xfs.length=h.fields.l:=h9.1;have lb:xbs.length=h.blocks.l:=h11.len.symm.trans h10.1;simp only [St.mk.sizeOf_spec] at hN;rw [wS] at hwx;have wc:=wsE_len xcs;have wl:=wL_len xls;have RP:=qh fun W (hW:Below w.heap.size w W)=>rightParts_any h.op (partsS h (noE xd) (noE xv)) (by unfold partsS;simp only;unfold big at hwx;omega) (by unfold partsS;simp only;unfold big at hwx;omega) W
  have C1:=qh fun W (hW:Below w.heap.size w W)=>isName_any ⟨h.name.toArray⟩ W (hM.below hW)
  have C2:=qh fun W (hW:Below w.heap.size w W)=>rightPlace_any (hM.below hW) (h4.below hW hW.size)
  have C3:=qh fun W (hW:Below w.heap.size w W)=>right_e (hM.below hW) (h5.below hW hW.size)
  have C4:=qh fun W (hW:Below w.heap.size w W)=>right_el (hM.below hW) (h6.below hW hW.size)
  have C5:=qh fun W (hW:Below w.heap.size w W)=>labels_right (h7.below hW hW.size) (LabsAt.below hW hW.size h8)
  have C6:=qh fun W (hW:Below w.heap.size w W)=>names_right (hM.below hW) (h9.below hW hW.size)
  have C7:=qh fun W (hW:Below w.heap.size w W)=>blocks_right IH (by omega) (by omega) (hM.below hW) (h10.below hW hW.size) (BlksAt.below hW hW.size h11)
  rw [stB,lc,ll,lf,lb];rw [sv_list] at C1;have HP:Hid ((⟨oneIf (h.name != []),oneIf (!noE xd),oneIf (!noE xv),h.conds.l,h.labels.l,h.fields.l,h.blocks.l⟩:Pt)=partsS h (noE xd) (noE xv)):=qh rfl;rw [HP.out];have o1:(((oneIf (h.name != []):Nat):Int)==0)=(h.name==[]):=oneIf_zero _;have o2:=oneIf_zero (noE xd);have o3:=oneIf_zero (noE xv);have X0:=qh (Box.new w (sC h).toArray 49);have Z0:=qh (show (w.alloc (.cells (sC h).toArray 49)).heap.size=w.heap.size+1 by simp);have B0:=qh (al1 w (.cells (sC h).toArray 49));clear hM hN hwx wc wl h4 h5 h6 h7 h8 h9 h10 h11 lc ll lf lb IH HP;obtain ⟨q0,hq0⟩:∃ u,stOk h.op (partsS h (noE xd) (noE xv))=u:=⟨_,rfl⟩;rw [hq0] at RP ⊢;clear hq0;generalize nmB h.name=u1 at *;generalize placeB xd=u2 at *;generalize exB xv=u3 at *;generalize exsB xcs=u4 at *;generalize xls.all labB=u5 at *;generalize xfs.all nmB=u6 at *;generalize blksB xbs=u7 at *;unfold partsS at PO RP;generalize (h.name==[])=v1 at *;generalize noE xd=v2 at *;generalize noE xv=v3 at *;obtain ⟨p1,hp1⟩:∃ p,oneIf (h.name != [])=p:=⟨_,rfl⟩;obtain ⟨p2,hp2⟩:∃ p,oneIf (!v2)=p:=⟨_,rfl⟩;obtain ⟨p3,hp3⟩:∃ p,oneIf (!v3)=p:=⟨_,rfl⟩;rw [hp1] at PO RP o1;rw [hp2] at PO RP o2;rw [hp3] at PO RP o3;clear hp1 hp2 hp3;obtain ⟨R,hR⟩:∃ R,(q0&&((v1||u1)&&((v2||u2)&&((v3||u3)&&(u4&&(u5&&(u6&&u7)))))))=R:=⟨_,rfl⟩;rw [hR];have HR:=qh hR;clear hR;simp only [Sl.v] at C4 C5 C6 C7;go_enter Tryz.func57,Tryz.ntmps57
  go_upto_region 1 with (fail)
  generalize w.alloc (.cells (sC h).toArray 49)=w1 at *;have X0:Hid (Box w1 w.heap.size 0 (sC h)):=X0;go_wp2_with (first|((with_reducible refine m_load X0.out 49 1 ?_ ?_ ?_ ?_ ?_ ?_);rfl;rfl;rfl;rfl;kernel_rfl)|(go_at_call 87;fail))
  refine (PO.out _ B0.out).mono ?_;rintro e w2 ⟨rfl,hb⟩;have X2:=qh (X0.out.below hb (by have:=Z0.out;omega));have B2:=btr B0 hb;have Z2:=qh (show w.heap.size+1≤w2.heap.size by have:=Z0.out;have:=hb.size;omega);clear hb X0 B0 Z0 PO;go_upto_region 2 with ((with_reducible refine m_new 136 3 5 ?_ ?_ ?_ (ptC ⟨p1,p2,p3,h.conds.l,h.labels.l,h.fields.l,h.blocks.l⟩) ?_ ?_ ?_ ?_ (ptC_one _) ?_);rfl;rfl;rfl;rfl;rfl;rfl;kernel_rfl;intro w3 hx hb hz)
  have K:=qh (Kp.mk (X2.out.below hb (by have:=Z2.out;omega)) hx (B2.out.trans (hb.mono B2.out.size)) (by have:=Z2.out;omega):Kp w w3 w2.heap.size (sC h) _);clear hx hb hz X2 B2 Z2;have ⟨d0,_,d1,_,d2,_,_⟩:=K.out.v;have c0:=(cell_of K.out.x (i:=0) rfl).1;have c1:=(cell_of K.out.x (i:=1) rfl).1;have c14:=(cell_of K.out.x (i:=14) rfl).1;have c15:=(cell_of K.out.x (i:=15) rfl).1;have c16:=(cell_of K.out.x (i:=16) rfl).1;have c17:=(cell_of K.out.x (i:=17) rfl).1;simp only [Sl.v,sv] at c1 c14 c15 c16 c17;go_wp2_with (first|((with_reducible refine m_load K.out.v 136 3 ?_ ?_ ?_ ?_ ?_ ?_);rfl;rfl;rfl;rfl;kernel_rfl)|(go_at_call 88;fail))
  refine (RP.out _ K.out.b).mono ?_;rintro e w4 ⟨rfl,hb⟩;have K_:=qh (K.out.step hb);clear d0 d1 d2 c0 c1 c14 c15 c16 c17 hb RP K;have K:=qh K_.out;clear K_;have ⟨d0,_,d1,_,d2,_,_⟩:=K.out.v;have c0:=(cell_of K.out.x (i:=0) rfl).1;have c1:=(cell_of K.out.x (i:=1) rfl).1;have c14:=(cell_of K.out.x (i:=14) rfl).1;have c15:=(cell_of K.out.x (i:=15) rfl).1;have c16:=(cell_of K.out.x (i:=16) rfl).1;have c17:=(cell_of K.out.x (i:=17) rfl).1;simp only [Sl.v,sv] at c1 c14 c15 c16 c17;cases q0
  · have HF:=qh (show R=false by rw [←HR.out];simp)
    go_wp2_with fail
    go_ret
    exact ⟨ret_bool HF.out.symm,K.out.b⟩
  obtain ⟨m1,hm1⟩:∃ m:Bool,m=v1:=⟨_,rfl⟩;have HM1:=qh hm1;clear hm1;obtain ⟨m2,hm2⟩:∃ m:Bool,m=v2:=⟨_,rfl⟩;have HM2:=qh hm2;clear hm2;obtain ⟨m3,hm3⟩:∃ m:Bool,m=v3:=⟨_,rfl⟩;have HM3:=qh hm3;clear hm3;cases v1<;>cases v2<;>cases v3
  all_goals
    first
      | (have hq:Hid (m1=true):=HM1;clear hq)
      | (go_wp2_with (go_at_call 31;fail)
         refine (C1.out _ K.out.b).mono ?_;rintro e w5 ⟨rfl,hb⟩;have K_:=qh (K.out.step hb);clear d0 d1 d2 c0 c1 c14 c15 c16 c17 hb C1 K;have K:=qh K_.out;clear K_;have ⟨d0,_,d1,_,d2,_,_⟩:=K.out.v;have c0:=(cell_of K.out.x (i:=0) rfl).1;have c1:=(cell_of K.out.x (i:=1) rfl).1;have c14:=(cell_of K.out.x (i:=14) rfl).1;have c15:=(cell_of K.out.x (i:=15) rfl).1;have c16:=(cell_of K.out.x (i:=16) rfl).1;have c17:=(cell_of K.out.x (i:=17) rfl).1;simp only [Sl.v,sv] at c1 c14 c15 c16 c17;cases u1
         · have HF:=qh (show R=false by rw [←HR.out];simp)
           go_wp2_with fail
           go_ret
           exact ⟨ret_bool HF.out.symm,K.out.b⟩
         skip)
    first
      | (have hq:Hid (m2=true):=HM2;clear hq)
      | (go_wp2_with (first|((with_reducible refine m_loadR (st_dst K.out.x) 44 25 ?_ ?_ ?_ ?_ ?_ ?_);rfl;rfl;rfl;rfl;kernel_rfl)|(go_at_call 89;fail))
         refine (C2.out _ K.out.b).mono ?_;rintro e w6 ⟨rfl,hb⟩;have K_:=qh (K.out.step hb);clear d0 d1 d2 c0 c1 c14 c15 c16 c17 hb C2 K;have K:=qh K_.out;clear K_;have ⟨d0,_,d1,_,d2,_,_⟩:=K.out.v;have c0:=(cell_of K.out.x (i:=0) rfl).1;have c1:=(cell_of K.out.x (i:=1) rfl).1;have c14:=(cell_of K.out.x (i:=14) rfl).1;have c15:=(cell_of K.out.x (i:=15) rfl).1;have c16:=(cell_of K.out.x (i:=16) rfl).1;have c17:=(cell_of K.out.x (i:=17) rfl).1;simp only [Sl.v,sv] at c1 c14 c15 c16 c17;cases u2
         · have HF:=qh (show R=false by rw [←HR.out];simp)
           go_wp2_with fail
           go_ret
           exact ⟨ret_bool HF.out.symm,K.out.b⟩
         skip)
    first
      | (have hq:Hid (m3=true):=HM3;clear hq)
      | (go_wp2_with (first|((with_reducible refine m_loadR (st_val K.out.x) 44 35 ?_ ?_ ?_ ?_ ?_ ?_);rfl;rfl;rfl;rfl;kernel_rfl)|(go_at_call 90;fail))
         refine (C3.out _ K.out.b).mono ?_;rintro e w7 ⟨rfl,hb⟩;have K_:=qh (K.out.step hb);clear d0 d1 d2 c0 c1 c14 c15 c16 c17 hb C3 K;have K:=qh K_.out;clear K_;have ⟨d0,_,d1,_,d2,_,_⟩:=K.out.v;have c0:=(cell_of K.out.x (i:=0) rfl).1;have c1:=(cell_of K.out.x (i:=1) rfl).1;have c14:=(cell_of K.out.x (i:=14) rfl).1;have c15:=(cell_of K.out.x (i:=15) rfl).1;have c16:=(cell_of K.out.x (i:=16) rfl).1;have c17:=(cell_of K.out.x (i:=17) rfl).1;simp only [Sl.v,sv] at c1 c14 c15 c16 c17;cases u3
         · have HF:=qh (show R=false by rw [←HR.out];simp)
           go_wp2_with fail
           go_ret
           exact ⟨ret_bool HF.out.symm,K.out.b⟩
         skip)
    go_wp2_with (go_at_call 91;fail)
    refine (C4.out _ K.out.b).mono ?_;rintro e w8 ⟨rfl,hb⟩;have K_:=qh (K.out.step hb);clear d0 d1 d2 c0 c1 c14 c15 c16 c17 hb C4 K;have K:=qh K_.out;clear K_;have ⟨d0,_,d1,_,d2,_,_⟩:=K.out.v;have c0:=(cell_of K.out.x (i:=0) rfl).1;have c1:=(cell_of K.out.x (i:=1) rfl).1;have c14:=(cell_of K.out.x (i:=14) rfl).1;have c15:=(cell_of K.out.x (i:=15) rfl).1;have c16:=(cell_of K.out.x (i:=16) rfl).1;have c17:=(cell_of K.out.x (i:=17) rfl).1;simp only [Sl.v,sv] at c1 c14 c15 c16 c17;cases u4
    · have HF:=qh (show R=false by rw [←HR.out];simp)
      go_wp2_with fail
      go_ret
      exact ⟨ret_bool HF.out.symm,K.out.b⟩
    go_wp2_with (go_at_call 92;fail)
    refine (C5.out _ K.out.b).mono ?_;rintro e w9 ⟨rfl,hb⟩;have K_:=qh (K.out.step hb);clear d0 d1 d2 c0 c1 c14 c15 c16 c17 hb C5 K;have K:=qh K_.out;clear K_;have ⟨d0,_,d1,_,d2,_,_⟩:=K.out.v;have c0:=(cell_of K.out.x (i:=0) rfl).1;have c1:=(cell_of K.out.x (i:=1) rfl).1;have c14:=(cell_of K.out.x (i:=14) rfl).1;have c15:=(cell_of K.out.x (i:=15) rfl).1;have c16:=(cell_of K.out.x (i:=16) rfl).1;have c17:=(cell_of K.out.x (i:=17) rfl).1;simp only [Sl.v,sv] at c1 c14 c15 c16 c17;cases u5
    · have HF:=qh (show R=false by rw [←HR.out];simp)
      go_wp2_with fail
      go_ret
      exact ⟨ret_bool HF.out.symm,K.out.b⟩
    go_wp2_with (go_at_call 94;fail)
    refine (C6.out _ K.out.b).mono ?_;rintro e w10 ⟨rfl,hb⟩;have K_:=qh (K.out.step hb);clear d0 d1 d2 c0 c1 c14 c15 c16 c17 hb C6 K;have K:=qh K_.out;clear K_;have ⟨d0,_,d1,_,d2,_,_⟩:=K.out.v;have c0:=(cell_of K.out.x (i:=0) rfl).1;have c1:=(cell_of K.out.x (i:=1) rfl).1;have c14:=(cell_of K.out.x (i:=14) rfl).1;have c15:=(cell_of K.out.x (i:=15) rfl).1;have c16:=(cell_of K.out.x (i:=16) rfl).1;have c17:=(cell_of K.out.x (i:=17) rfl).1;simp only [Sl.v,sv] at c1 c14 c15 c16 c17;cases u6
    · have HF:=qh (show R=false by rw [←HR.out];simp)
      go_wp2_with fail
      go_ret
      exact ⟨ret_bool HF.out.symm,K.out.b⟩
    go_wp2_with (go_at_call 95;fail)
    refine (C7.out _ K.out.b).mono ?_;rintro e w11 ⟨rfl,hb⟩;have K_:=qh (K.out.step hb);clear d0 d1 d2 c0 c1 c14 c15 c16 c17 hb C7 K;have K:=qh K_.out;clear K_;have ⟨d0,_,d1,_,d2,_,_⟩:=K.out.v;have c0:=(cell_of K.out.x (i:=0) rfl).1;have c1:=(cell_of K.out.x (i:=1) rfl).1;have c14:=(cell_of K.out.x (i:=14) rfl).1;have c15:=(cell_of K.out.x (i:=15) rfl).1;have c16:=(cell_of K.out.x (i:=16) rfl).1;have c17:=(cell_of K.out.x (i:=17) rfl).1;simp only [Sl.v,sv] at c1 c14 c15 c16 c17;have HF:=qh (show u7=R by rw [←HR.out];simp);go_wp2_with fail
    go_ret
    exact ⟨ret_bool HF.out,K.out.b⟩
theorem right_s_all:∀ N,RiS N
  | 0=>fun _ h=>absurd h (by omega)
  | N+1=>right_s_step (right_s_all N)
theorem right_sl {L:List St} (hW:wsS L≤big) {s:Sl} {w:World} (hM:MaxL w) (h1:StL w w.heap.size s L) :
    Calls Tryz.prog 34 #[s.v] w fun e w'=>e=.returned (.bool (stsB L))∧Below w.heap.size w w':=
  block_right (right_s_all (SizeOf.sizeOf L)) (Nat.le_refl _) hW hM h1
end sh
namespace sh
open ChangeShapes WideShapes ChangeAt RowKit k rr tk tr
mutual
def inS:St→Prop
 | .mk _ _ _ _ _ labels _ blocks _=>(∀ l∈labels,∀ n∈l,InI n)∧inBs blocks
def inSs:List St→Prop
 | []=>True
 | x::l=>inS x∧inSs l
def inBs:List (List St)→Prop
 | []=>True
 | x::l=>inSs x∧inBs l
end
theorem inSs_at:∀ {L:List St} {i:Nat} {x:St},inSs L→L[i]?=some x→inS x
 | y::l,0,x,h,e=>by (obtain rfl:y=x:=by simpa using e);exact h.1
 | y::l,i+1,x,h,e=>inSs_at (L:=l) (i:=i) h.2 (by simpa using e)
theorem inBs_at:∀ {L:List (List St)} {i:Nat} {x:List St},inBs L→L[i]?=some x→inSs x
 | y::l,0,x,h,e=>by (obtain rfl:y=x:=by simpa using e);exact h.1
 | y::l,i+1,x,h,e=>inBs_at (L:=l) (i:=i) h.2 (by simpa using e)
theorem stsB_at':∀ {L:List St} {i:Nat} {x:St},stsB L=true→L[i]?=some x→stB x=true
 | y::l,0,x,h,e=>by
  obtain rfl:y=x:=by simpa using e
  rw [stsB,Bool.and_eq_true] at h;exact h.1
 | y::l,i+1,x,h,e=>by
  rw [stsB,Bool.and_eq_true] at h;exact stsB_at' (L:=l) (i:=i) h.2 (by simpa using e)
theorem blksB_at':∀ {L:List (List St)} {i:Nat} {x:List St},blksB L=true→L[i]?=some x→stsB x=true
 | y::l,0,x,h,e=>by
  obtain rfl:y=x:=by simpa using e
  rw [blksB,Bool.and_eq_true] at h;exact h.1
 | y::l,i+1,x,h,e=>by
  rw [blksB,Bool.and_eq_true] at h;exact blksB_at' (L:=l) (i:=i) h.2 (by simpa using e)
theorem exsB_at':∀ {L:List Ex} {i:Nat} {x:Ex},exsB L=true→L[i]?=some x→exB x=true
 | y::l,0,x,h,e=>by
  obtain rfl:y=x:=by simpa using e
  rw [exsB,Bool.and_eq_true] at h;exact h.1
 | y::l,i+1,x,h,e=>by
  rw [exsB,Bool.and_eq_true] at h;exact exsB_at' (L:=l) (i:=i) h.2 (by simpa using e)
theorem drop_at {α:Type} {L:List α} {q:Nat} {x:α} (h:L[q]?=some x):L.drop q=x::L.drop (q+1):=by
 obtain ⟨a1,a2⟩:=List.getElem?_eq_some_iff.1 h;rw [List.drop_eq_getElem_cons a1,a2]
def WrS (N:Nat):Prop:=∀ x:St,SizeOf.sizeOf x<N→stB x=true→inS x→∀ (h:SH) (B g:Nat) (l:Str) (w:World),Wx B g l w→StAt w B x h→l.length+(stS x).length≤lim →
 Calls Tryz.prog 63 #[.pointer (some ⟨g,0,none⟩),.agg (sC h).toArray] w (Put B g l (stS x) w)
def WrB (N:Nat):Prop:=∀ L:List St,SizeOf.sizeOf L<N→stsB L=true→inSs L→∀ (s:Sl) (B g:Nat) (l:Str) (w:World),Wx B g l w→StL w B s L→l.length+(stsS L).length≤lim →
 Calls Tryz.prog 38 #[.pointer (some ⟨g,0,none⟩),s.v] w (Put B g l (stsS L) w)
theorem block_step {N:Nat} (IH:WrS N):WrB (N+1):=by
 intro L hN hb hi ⟨A,n,c⟩ B g l w hK hS hlen;obtain ⟨H,hR,hE⟩:=hS;have hR:Rd sC 19 w B A n c H:=hR;have hn:H.length=n:=hR.1;have hnl:=hR.len_le;obtain ⟨T,hT⟩:∃ T,stsS L=T:=⟨_,rfl⟩;rw [hT] at hlen ⊢;have ST:=qh fun (q:Nat) (h:SH) (hq:H[q]?=some h)=>hE.at hq
 have CX:=qh fun (x:St) (q:Nat) (hx:L[q]?=some x)=>IH x (by have:=at_size hx;omega) (stsB_at' hb hx) (inSs_at hi hx)
 have HT:=qh hT;have HL:=qh hlen;have HR:=qh hR;have HE:=qh hE;have HN:=qh (And.intro hn (And.intro hnl hE.len));have K0:=qh hK;clear hR hlen hi hn hK hT hE hb hN IH;simp only [Sl.v];go_enter Tryz.func38,Tryz.ntmps38
 go_upto_region 1 with (fail)
 go_loopw [8] (fun s8 wr=>∃ (q:Nat) (t1:Str),q≤n∧s8=.int .i64 q∧t1++stsS (L.drop q)=T∧Wx B g (l++t1) wr∧Fr B g w wr) (fun i _=>n-(intOf i).toNat)
 case atStart=>exact ⟨0,[],Nat.zero_le _,rfl,by rw [List.drop_zero];exact HT.out,by rw [List.append_nil];exact K0.out,Fr.refl _ _ _⟩
 case round=>
  obtain ⟨q,t1,hq,rfl,ht,hk,hf⟩:=hrel;by_cases hlt:q<n
  rotate_left
  ·obtain rfl:q=n:=by omega
   have hz:¬ (q:Int)<q:=by omega
   rw [List.drop_of_length_le (by have:=HN.out;omega),stsS,List.append_nil] at ht;subst ht;have K9:=qh hk;have F9:=qh hf;clear hk hf;go_wp2_with fail
   go_end0
   exact ⟨rfl,K9.out,F9.out⟩
  have r1:Rd sC 19 wr B A n c H:=HR.out.below hf.1;obtain ⟨b1,o1,h,rfl,hb1,hp,hc1⟩:=r1.at hlt;obtain ⟨x,hx,hxa⟩:=ST.out q h hp;rw [drop_at hx,stsS] at ht;have hlx:(l++t1).length+(stS x).length≤lim:=by
   have h1:=HL.out;rw [←ht] at h1;simp only [List.length_append] at h1 ⊢;omega
  have ht2:(t1++stS x)++stsS (L.drop (q+1))=T:=by rw [List.append_assoc];exact ht
  have w1:=nat_step q (by omega);have hci:=qh hc1;have KK:=qh hk;have FF:=qh hf;have XA:=qh hxa;have HX:=qh hx;have HT2:=qh ht2;have HLX:=qh hlx;have LT:=qh hlt;clear hc1 hk hf hxa hx ht ht2 hlx r1 hp hb1;go_upto_region 3 with (first|((with_reducible refine m_loadR hci.out 49 10 ?_ ?_ ?_ ?_ ?_ ?_);rfl;rfl;rfl;rfl;kernel_rfl)|((with_reducible refine m_new 49 5 11 ?_ ?_ ?_ (sC h) ?_ ?_ ?_ ?_ (sC_one _) ?_);rfl;rfl;rfl;rfl;rfl;rfl;kernel_rfl;intro w4 hx hb hz))
  have X4:=qh hx;have K4:=qh (KK.out.below hb);have F4:=qh (FF.out.trans (Fr.of hb KK.out.le));clear hx hb hz hci KK FF hlt;go_wp2_with (first|((with_reducible refine m_load X4.out 49 5 ?_ ?_ ?_ ?_ ?_ ?_);rfl;rfl;rfl;rfl;kernel_rfl)|(go_at_call 63;fail))
  refine (CX.out x q HX.out h B g (l++t1) w4 K4.out (XA.out.below F4.out.1 (Nat.le_refl _)) HLX.out).mono ?_;rintro e w5 ⟨rfl,k9,f9⟩;rw [List.append_assoc] at k9;have K5:=qh k9;have F5:=qh (F4.out.trans f9);clear k9 f9 K4 F4 X4;go_wp2_with fail
  go_roundw
  case rel=>exact ⟨q+1,t1++stS x,by have:=LT.out;omega,by go_num,HT2.out,K5.out,F5.out⟩
  case measure=>have:=LT.out;simp [intOf];omega
def BlkC (x:List St):Prop:=∀ (s:Sl) (B g:Nat) (l:Str) (w:World),Wx B g l w→StL w B s x→l.length+(stsS x).length≤lim→Calls Tryz.prog 38 #[.pointer (some ⟨g,0,none⟩),s.v] w (Put B g l (stsS x) w)
theorem else_any {L:List (List St)} {s:Sl} {H:List Sl} {B g:Nat} {l:Str} {w:World} (hCX:∀ (x:List St) (q:Nat),L[q]?=some x→BlkC x) (hK:Wx B g l w) (hR:RS slC 1 w B s H) (hST:∀ (q:Nat) (h:Sl),H[q]?=some h→∃ x,L[q]?=some x∧StL w B h x) (hLH:H.length=L.length) (hlen:l.length+(elseT (blksS L)).length≤lim) :
  Calls Tryz.prog 128 #[.pointer (some ⟨g,0,none⟩),s.v] w (Put B g l (elseT (blksS L)) w):=by
 obtain ⟨A,n,c⟩:=s;have hR:Rd slC 1 w B A n c H:=hR;have hn:H.length=n:=hR.1;have hnl:=hR.len_le;obtain ⟨T,hT⟩:∃ T,elseT (blksS L)=T:=⟨_,rfl⟩;rw [hT] at hlen ⊢;have ST:=qh hST;have CX:=qh hCX;have HT:=qh hT;have HL:=qh hlen;have HR:=qh hR;have HN:=qh (And.intro hn (And.intro hnl hLH));have K0:=qh hK;clear hR hlen hn hK hT hST hCX;simp only [Sl.v];go_enter Tryz.func128,Tryz.ntmps128
 go_upto_region 1 with (fail)
 go_loopw [8] (fun s8 wr=>∃ (q:Nat) (t1:Str),q≤n∧s8=.int .i64 q∧t1++elseT (blksS (L.drop q))=T∧Wx B g (l++t1) wr∧Fr B g w wr) (fun i _=>n-(intOf i).toNat)
 case atStart=>exact ⟨0,[],Nat.zero_le _,rfl,by rw [List.drop_zero];exact HT.out,by rw [List.append_nil];exact K0.out,Fr.refl _ _ _⟩
 case round=>
  obtain ⟨q,t1,hq,rfl,ht,hk,hf⟩:=hrel;by_cases hlt:q<n
  rotate_left
  ·obtain rfl:q=n:=by omega
   have hz:¬ (q:Int)<q:=by omega
   rw [List.drop_of_length_le (by have:=HN.out;omega),blksS,elseT,List.append_nil] at ht;subst ht;have K9:=qh hk;have F9:=qh hf;clear hk hf;go_wp2_with fail
   go_end0
   exact ⟨rfl,K9.out,F9.out⟩
  have r1:Rd slC 1 wr B A n c H:=HR.out.below hf.1;obtain ⟨b1,o1,h,rfl,hb1,hp,hc1⟩:=r1.at hlt;obtain ⟨x,hx,hxa⟩:=ST.out q h hp;rw [drop_at hx,blksS,elseT] at ht;have ht2:(t1++([69,76,83,69,10]++stsS x))++elseT (blksS (L.drop (q+1)))=T:=by rw [List.append_assoc];exact ht
  have hlx:(l++t1).length+5+(stsS x).length≤lim:=by
   have h1:=HL.out;rw [←ht2] at h1;simp only [List.length_append,List.length_cons,List.length_nil] at h1 ⊢;omega
  have w1:=nat_step q (by omega);have a0:=hc1 0 _ rfl;rw [Nat.add_zero,Nat.mul_one] at a0;have P1:=qh (put_new [[69,76,83,69,10]] (t:=[69,76,83,69,10]) rfl hk (by decide) (by simp only [List.length_cons,List.length_nil];omega));have KK:=qh hk;have FF:=qh hf;have XA:=qh hxa;have HX:=qh hx;have HT2:=qh ht2;have HLX:=qh hlx;have LT:=qh hlt;unfold Sl.v at a0;clear hc1 hk hf hxa hx ht ht2 hlx r1 hp hb1;go_wp2_with (go_at_call 35;fail)
  refine P1.out.mono ?_;rintro e w4 ⟨rfl,k9,f9⟩;have K4:=qh k9;have F4:=qh (FF.out.trans f9);clear k9 f9 KK FF a0;have C2:=qh (CX.out x q HX.out h B g (l++t1++[69,76,83,69,10]) w4 K4.out (XA.out.below F4.out.1 (Nat.le_refl _)) (by have h9:=HLX.out;simp only [List.length_append,List.length_cons,List.length_nil] at h9 ⊢;omega));simp only [Sl.v] at C2;go_wp2_with (go_at_call 38;fail)
  refine C2.out.mono ?_;rintro e w5 ⟨rfl,k9,f9⟩;rw [List.append_assoc,List.append_assoc] at k9;have K5:=qh k9;have F5:=qh (F4.out.trans f9);clear k9 f9 K4 F4 C2;go_wp2_with fail
  go_roundw
  case rel=>exact ⟨q+1,t1++([69,76,83,69,10]++stsS x),by have:=LT.out;omega,by go_num,HT2.out,K5.out,F5.out⟩
  case measure=>have:=LT.out;simp [intOf];omega
theorem cut_row {α:Type} {enc:α→List Value} {z:Nat} {w:World} {B:Nat} {A:Option Addr} {n cap:Nat} {L:List α} (h:Rd enc z w B A n cap L) (j:Nat) (hj:j≤n) :
  ∃ A2 c2,sliced A j n cap z=.slice A2 (n-j) c2∧Rd enc z w B A2 (n-j) c2 (L.drop j):=by
 have hl:=h.1;have hc:=h.2.1;have hm:=h.2.2.1;refine ⟨_,_,rfl,?_⟩;refine ⟨by rw [List.length_drop];omega,by omega,by omega,fun e=>?_,fun hp=>?_⟩
 ·cases A with
  | none=>have:=h.2.2.2.1 rfl;omega
  | some a=>
   by_cases hcj:cap=j
   ·omega
   ·rw [if_neg hcj] at e;cases e
 ·obtain ⟨b,off,rfl,hb,hx⟩:=h.2.2.2.2 (by omega)
  refine ⟨b,off+j*z,?_,hb,fun i x hi=>?_⟩
  ·rw [if_neg (show ¬ cap=j by omega)]
   simp only [Option.map_some];unfold Addr.add;by_cases h0:j*z=0
   ·rw [if_pos h0,h0,Nat.add_zero]
   ·rw [if_neg h0]
  ·rw [List.getElem?_drop] at hi
   have:=hx (j+i) x hi;rwa [Nat.add_mul,←Nat.add_assoc] at this
theorem exs_at {L:List Ex} {q:Nat} {x:Ex} (h:L[q]?=some x):exsS (L.drop q)=exS x::exsS (L.drop (q+1)):=by rw [drop_at h,exsS]
theorem blks_at {L:List (List St)} {q:Nat} {x:List St} (h:L[q]?=some x):blksS (L.drop q)=stsS x::blksS (L.drop (q+1)):=by rw [drop_at h,blksS]
theorem choice_any {N:Nat} (IH:WrB N) {h:SH} {cs:List Ex} {bs:List (List St)} {CH:List EH} {BH:List Sl} {B g:Nat} {l:Str} {w:World} (hK:Wx B g l w)
  (hC:RS eC 6 w B h.conds CH) (hCE:ExsAt w B cs CH) (hR:RS slC 1 w B h.blocks BH) (hE:BlksAt w B bs BH) (hcb:exsB cs=true) (hbb:blksB bs=true) (hi:inBs bs) (hN:SizeOf.sizeOf bs≤N)
  (hle:cs.length≤bs.length) (hlen:l.length+(ifT [73,70,32] (exsS cs) (blksS bs)++[69,78,68,95,73,70,59,10]).length≤lim) :
  Calls Tryz.prog 101 #[.pointer (some ⟨g,0,none⟩),.agg (sC h).toArray] w (Put B g l (ifT [73,70,32] (exsS cs) (blksS bs)++[69,78,68,95,73,70,59,10]) w):=by
 obtain ⟨w1,e1,K1,H1,F1,ng⟩:=hK.box (sC h) 49;obtain ⟨T,hT⟩:∃ T,ifT [73,70,32] (exsS cs) (blksS bs)=T:=⟨_,rfl⟩;rw [hT] at hlen ⊢;obtain ⟨TT,hTT⟩:∃ TT,T++[69,78,68,95,73,70,59,10]=TT:=⟨_,rfl⟩;rw [hTT] at hlen ⊢;have hCX:∀ (x:List St) (q:Nat),bs[q]?=some x→BlkC x:=fun x q hx=>IH x (by have:=at_size hx;omega) (blksB_at' hbb hx) (inBs_at hi hx)
 obtain ⟨op,nm,hd,hv,⟨A1,n,c1⟩,sl2,sl3,⟨A4,m,c4⟩,ln⟩:=h;have hC:Rd eC 6 w B A1 n c1 CH:=hC;have hR:Rd slC 1 w B A4 m c4 BH:=hR;have hn1:CH.length=n:=hC.1;have hm1:BH.length=m:=hR.1;have hcl:=hCE.len;have hbl:=hE.len;have hnl:=hC.len_le;have hml:=hR.len_le;obtain ⟨A5,c5,hcut,hR5⟩:=cut_row hR n (by omega);have hmax:=hR.2.1;have hmax2:=hR.2.2.1;have ST:=qh fun (q:Nat) (h:Sl) (hq:BH[q]?=some h)=>hE.at hq
 have EL:=qh fun (l':Str) (W:World) (hf:Fr B g w W) (hW:Wx B g l' W) (hl:l'.length+(elseT (blksS (bs.drop n))).length≤lim)=>
  else_any (L:=bs.drop n) (s:=⟨A5,m-n,c5⟩) (H:=BH.drop n) (fun x q hx=>hCX x (n+q) (by rw [←List.getElem?_drop];exact hx)) hW (hR5.below hf.1)
   (fun q h hq=>by
    obtain ⟨x,hx,hxa⟩:=ST.out (n+q) h (by rw [←List.getElem?_drop];exact hq);exact ⟨x,by rw [List.getElem?_drop];exact hx,hxa.below hf.1 (Nat.le_refl _)⟩) (by rw [List.length_drop,List.length_drop,hbl]) hl
 have SLF:=qh (show ∀ w:World,(Instr.slice 47 (.slice A4 m c4) (some (.int .i64 (n:Int))) none none).run Tryz.prog w=.ok (.slice A5 (m-n) c5) w from fun w=>by
  rw [run_slice_l w _ A4 m c4 (by kernel_rfl) .i64 _ (by omega) (by omega),Int.toNat_natCast,hcut.symm];kernel_rfl)
 have CXE:=qh fun (q:Nat) (h:EH) (hq:CH[q]?=some h)=>hCE.at hq
 have CXB:=qh fun (q:Nat) (x:Ex) (hq:cs[q]?=some x)=>exsB_at' hcb hq
 have CX:=qh hCX;have HT:=qh hT;have HTT:=qh hTT;have HL:=qh hlen;have HC:=qh hC;have HR:=qh hR;have HN:=qh (show CH.length=n∧BH.length=m∧CH.length=cs.length∧BH.length=bs.length∧n≤m from ⟨hn1,hm1,hcl,hbl,by omega⟩);have NG:=qh ng;have K1:=qh K1;have H1:=qh H1;have F1:=qh F1;clear hK ng hC hR hn1 hm1 hcl hbl hml hcut hR5 hmax hmax2 hCX hE hCE hcb hbb hi hN hle hlen hT hTT IH;go_enter Tryz.func101,Tryz.ntmps101
 go_upto_region 1 with (fail)
 subst e1;generalize w.alloc (.cells (sC ⟨op,nm,hd,hv,⟨A1,n,c1⟩,sl2,sl3,⟨A4,m,c4⟩,ln⟩).toArray 49)=w1 at *;have c14:=(cell_of H1.out.box (i:=14) rfl).1;simp only [Sl.v] at c14;go_upto_region 3 with (fail)
 clear c14;go_loopw [4,10] (fun s4 s10 wr=>∃ (q:Nat) (t1 wd:Str),q≤n∧s10=.int .i64 q∧s4=.string ⟨wd.toArray⟩∧t1++ifT wd (exsS (cs.drop q)) (blksS (bs.drop q))=T∧Wx B g (l++t1) wr∧Fr B g w1 wr) (fun _ i _=>n-(intOf i).toNat)
 case atStart=>exact ⟨0,[],[73,70,32],Nat.zero_le _,rfl,rfl,by rw [List.drop_zero,List.drop_zero];exact HT.out,by rw [List.append_nil];exact K1.out,Fr.refl _ _ _⟩
 case round=>
  obtain ⟨q,t1,wd,hq,rfl,rfl,ht,hk,hf⟩:=hrel;have h2:=H1.out.fr hf NG.out (by decide);by_cases hlt:q<n
  rotate_left
  ·obtain rfl:q=n:=by omega
   have hz:¬ (q:Int)<q:=by omega
   rw [List.drop_of_length_le (l:=cs) (by have:=HN.out;omega),exsS,ifT] at ht;have hlT:l.length+t1.length+(elseT (blksS (bs.drop q))).length+8≤lim:=by
    have h1:=HL.out;rw [←HTT.out,←ht] at h1;simp only [List.length_append,List.length_cons,List.length_nil] at h1;omega
   have EX:=qh (EL.out (l++t1) wr (F1.out.trans hf) hk (by rw [List.length_append];omega));have HTE:=qh ht;have HLT:=qh hlT;have FF:=qh (F1.out.trans hf);have hsl:=SLF.out;have c14:=(cell_of h2.box (i:=14) rfl).1;have c17:=(cell_of h2.box (i:=17) rfl).1;simp only [Sl.v] at c14 c17 EX;clear hk hf ht hlT h2 EL;go_wp2_with (go_at_call 128;fail)
   refine EX.out.mono ?_;rintro e w3 ⟨rfl,k9,f9⟩;rw [List.append_assoc,HTE.out] at k9;have K3:=qh k9;have F3:=qh (FF.out.trans f9);clear k9 f9 EX FF c14 c17 hsl;go_wp2_with (go_at_call 35;fail)
   refine (put_new [[69,78,68,95,73,70,59,10]] (t:=[69,78,68,95,73,70,59,10]) rfl K3.out (by decide) (by have h1:=HL.out;rw [←HTT.out] at h1;simp only [List.length_append,List.length_cons,List.length_nil] at h1 ⊢;omega)).mono ?_;rintro e w4 ⟨rfl,k9,f9⟩;rw [List.append_assoc,HTT.out] at k9;have K4:=qh k9;have F4:=qh (F3.out.trans f9);clear k9 f9 K3 F3;go_wp2_with fail
   go_end0
   exact ⟨rfl,K4.out,F4.out⟩
  have r1:Rd eC 6 wr B A1 n c1 CH:=HC.out.below (F1.out.trans hf).1;obtain ⟨b1,o1,eh,rfl,hb1,hp,hc1⟩:=r1.at hlt;obtain ⟨x,hx,hxa⟩:=CXE.out q eh hp;have hxb:=CXB.out q x hx;have r2:Rd slC 1 wr B A4 m c4 BH:=HR.out.below (F1.out.trans hf).1;obtain ⟨b2,o2,bh,rfl,hb2,hp2,hc2⟩:=r2.at (i:=q) (by have:=HN.out;omega);obtain ⟨y,hy,hya⟩:=ST.out q bh hp2;rw [exs_at hx,blks_at hy,ifT] at ht;have ht2:(t1++(wd++exS x++[32,84,72,69,78,10]++stsS y))++ifT [69,76,83,73,70,32] (exsS (cs.drop (q+1))) (blksS (bs.drop (q+1)))=T:=by
   rw [←ht];simp only [List.append_assoc,List.headD_cons,List.drop_succ_cons,List.drop_zero]
  have hlT:l.length+t1.length+wd.length+(exS x).length+6+(stsS y).length≤lim:=by
   have h1:=HL.out;rw [←HTT.out,←ht2] at h1;simp only [List.length_append,List.length_cons,List.length_nil] at h1;omega
  have w1':=nat_step q (by omega);have hci:=qh hc1;have a0:wr.cell? ⟨b2,o2+q,none⟩=some bh.v:=by
   have a0:=hc2 0 _ rfl;rw [Nat.add_zero,Nat.mul_one] at a0;exact a0
  have BC:=qh fun W (hW:Fr B g wr W)=>(hW.1.cell (p:=⟨b2,o2+q,none⟩) hb2).trans a0
  clear a0;have KK:=qh hk;have FF:=qh hf;have H2:=qh h2;have XA:=qh hxa;have XB:=qh hxb;have YA:=qh hya;have HY:=qh hy;have HT2:=qh ht2;have HLX:=qh hlT;have LT:=qh hlt;have LM:=qh (show q<m by have:=HN.out;omega);clear hc1 hk hf hxa hxb hx ht ht2 hlT r1 r2 hp hp2 hb1 hb2 hc2 hy hya h2 EL SLF;go_upto_region 5 with (first|((with_reducible refine m_loadR hci.out 44 13 ?_ ?_ ?_ ?_ ?_ ?_);rfl;rfl;rfl;rfl;kernel_rfl)|((with_reducible refine m_new 44 6 14 ?_ ?_ ?_ (eC eh) ?_ ?_ ?_ ?_ (eC_one _) ?_);rfl;rfl;rfl;rfl;rfl;rfl;kernel_rfl;intro w4 hx hb hz))
  have X4:=qh hx;have K4:=qh (KK.out.below hb);have F4:=qh (FF.out.trans (Fr.of hb KK.out.le));have F4':=qh (Fr.of (B:=B) (g:=g) hb KK.out.le);clear hx hb hz hci KK FF hlt;go_wp2_with (first|((with_reducible refine m_load X4.out 44 6 ?_ ?_ ?_ ?_ ?_ ?_);rfl;rfl;rfl;rfl;kernel_rfl)|(go_at_call 100;fail))
  refine (around_any (a:=wd) (b:=[32,84,72,69,78,10]) K4.out (XA.out.below (F1.out.trans F4.out).1 (Nat.le_refl _)) XB.out (by have:=HLX.out;simp only [List.length_append,List.length_cons,List.length_nil];omega)).mono ?_;rintro e w5 ⟨rfl,k9,f9⟩;have K5:=qh k9;have F5:=qh (F4.out.trans f9);have F5':=qh (F4'.out.trans f9);clear k9 f9 K4 F4 F4' X4;have h5:=H1.out.fr F5.out NG.out (by decide);have c17:=(cell_of h5.box (i:=17) rfl).1;have a0:=BC.out _ F5'.out;have hlm:=LM.out;simp only [Sl.v] at c17 a0;have C2:=qh (CX.out y q HY.out bh B g _ w5 K5.out (YA.out.below (F1.out.trans F5.out).1 (Nat.le_refl _)) (by have h9:=HLX.out;simp only [List.length_append,List.length_cons,List.length_nil] at h9 ⊢;omega));simp only [Sl.v] at C2;clear h5;go_wp2_with (go_at_call 38;fail)
  refine C2.out.mono ?_;rintro e w6 ⟨rfl,k9,f9⟩;rw [List.append_assoc,List.append_assoc] at k9;have K6:=qh k9;have F6:=qh (F5.out.trans f9);clear k9 f9 K5 F5 C2 c17 a0 hlm;go_wp2_with fail
  go_roundw
  case rel=>exact ⟨q+1,t1++(wd++exS x++[32,84,72,69,78,10]++stsS y),[69,76,83,73,70,32],by have:=LT.out;omega,by go_num,rfl,HT2.out,K6.out,F6.out⟩
  case measure=>have:=LT.out;simp [intOf];omega
theorem cases_any {N:Nat} (IH:WrB N) {h:SH} {x:Ex} {ls:List (List Int)} {bs:List (List St)} {CH:List Sl} {BH:List Sl} {B g:Nat} {l:Str} {w:World} (hK:Wx B g l w)
  (hXA:ExAt w B x h.val) (hXB:exB x=true) (hC:RS slC 1 w B h.labels CH) (hCE:LabsAt w B ls CH) (hR:RS slC 1 w B h.blocks BH) (hE:BlksAt w B bs BH) (hcb:ls.all labB=true) (hci:∀ l∈ls,∀ n∈l,InI n) (hbb:blksB bs=true) (hi:inBs bs) (hN:SizeOf.sizeOf bs≤N)
  (hle:ls.length≤bs.length) (hlen:l.length+([67,65,83,69,32]++exS x++[32,79,70,10]++caseT ls (blksS bs)++[69,78,68,95,67,65,83,69,59,10]).length≤lim) :
  Calls Tryz.prog 102 #[.pointer (some ⟨g,0,none⟩),.agg (sC h).toArray] w (Put B g l ([67,65,83,69,32]++exS x++[32,79,70,10]++caseT ls (blksS bs)++[69,78,68,95,67,65,83,69,59,10]) w):=by
 obtain ⟨w1,e1,K1,H1,F1,ng⟩:=hK.box (sC h) 49;obtain ⟨T,hT⟩:∃ T,[67,65,83,69,32]++exS x++[32,79,70,10]++caseT ls (blksS bs)=T:=⟨_,rfl⟩;rw [hT] at hlen ⊢;obtain ⟨TT,hTT⟩:∃ TT,T++[69,78,68,95,67,65,83,69,59,10]=TT:=⟨_,rfl⟩;rw [hTT] at hlen ⊢;have hCX:∀ (x:List St) (q:Nat),bs[q]?=some x→BlkC x:=fun x q hx=>IH x (by have:=at_size hx;omega) (blksB_at' hbb hx) (inBs_at hi hx)
 obtain ⟨op,nm,hd,hv,sl1,⟨A1,n,c1⟩,sl3,⟨A4,m,c4⟩,ln⟩:=h;have hC:Rd slC 1 w B A1 n c1 CH:=hC;have hR:Rd slC 1 w B A4 m c4 BH:=hR;have hn1:CH.length=n:=hC.1;have hm1:BH.length=m:=hR.1;have hcl:=hCE.len;have hbl:=hE.len;have hnl:=hC.len_le;have hml:=hR.len_le;obtain ⟨A5,c5,hcut,hR5⟩:=cut_row hR n (by omega);have hmax:=hR.2.1;have hmax2:=hR.2.2.1;have ST:=qh fun (q:Nat) (h:Sl) (hq:BH[q]?=some h)=>hE.at hq
 have EL:=qh fun (l':Str) (W:World) (hf:Fr B g w W) (hW:Wx B g l' W) (hl:l'.length+(elseT (blksS (bs.drop n))).length≤lim)=>
  else_any (L:=bs.drop n) (s:=⟨A5,m-n,c5⟩) (H:=BH.drop n) (fun x q hx=>hCX x (n+q) (by rw [←List.getElem?_drop];exact hx)) hW (hR5.below hf.1)
   (fun q h hq=>by
    obtain ⟨x,hx,hxa⟩:=ST.out (n+q) h (by rw [←List.getElem?_drop];exact hq);exact ⟨x,by rw [List.getElem?_drop];exact hx,hxa.below hf.1 (Nat.le_refl _)⟩) (by rw [List.length_drop,List.length_drop,hbl]) hl
 have SLF:=qh (show ∀ w:World,(Instr.slice 47 (.slice A4 m c4) (some (.int .i64 (n:Int))) none none).run Tryz.prog w=.ok (.slice A5 (m-n) c5) w from fun w=>by
  rw [run_slice_l w _ A4 m c4 (by kernel_rfl) .i64 _ (by omega) (by omega),Int.toNat_natCast,hcut.symm];kernel_rfl)
 have CXE:=qh fun (q:Nat) (h:Sl) (hq:CH[q]?=some h)=>hCE.at hq
 have CXB:=qh fun (q:Nat) (x:List Int) (hq:ls[q]?=some x)=>(show x.length % 2=0∧∀ n∈x,InI n from by
  have hm:=List.mem_of_getElem? hq;refine ⟨?_,hci x hm⟩;rw [List.all_eq_true] at hcb;have:=hcb x hm;simp only [labB,Bool.and_eq_true,beq_iff_eq] at this;exact this.2.1)
 have hcs:([67,65,83,69,32]++exS x++[32,79,70,10]:Str).length+(caseT ls (blksS bs)).length+10=TT.length:=by
  rw [←hTT,←hT];simp only [List.length_append,List.length_cons,List.length_nil]
 have AR:=qh (around_any (x:=x) (a:=[67,65,83,69,32]) (b:=[32,79,70,10]) K1 (hXA.below F1.1 (Nat.le_refl _)) hXB (by omega));have CX:=qh hCX;have HT:=qh hT;have HTT:=qh hTT;have HL:=qh hlen;have HC:=qh hC;have HR:=qh hR;have HN:=qh (show CH.length=n∧BH.length=m∧CH.length=ls.length∧BH.length=bs.length∧n≤m from ⟨hn1,hm1,hcl,hbl,by omega⟩);have NG:=qh ng;have K1:=qh K1;have H1:=qh H1;have F1:=qh F1;clear hK ng hC hR hn1 hm1 hcl hbl hml hcut hR5 hmax hmax2 hCX hE hCE hcb hci hcs hbb hi hN hle hlen hT hTT IH hXA hXB;go_enter Tryz.func102,Tryz.ntmps102
 go_upto_region 1 with (fail)
 subst e1;generalize w.alloc (.cells (sC ⟨op,nm,hd,hv,sl1,⟨A1,n,c1⟩,sl3,⟨A4,m,c4⟩,ln⟩).toArray 49)=w1 at *;go_wp2_with (first|((with_reducible refine m_loadR (st_val H1.out.box) 44 7 ?_ ?_ ?_ ?_ ?_ ?_);rfl;rfl;rfl;rfl;kernel_rfl)|(go_at_call 100;fail))
 refine AR.out.mono ?_;rintro e w2 ⟨rfl,k9,f9⟩;have K2:=qh k9;have F2:=qh f9;clear k9 f9 AR;have h2:=H1.out.fr F2.out NG.out (by decide);have c15:=(cell_of h2.box (i:=15) rfl).1;simp only [Sl.v] at c15;clear h2;go_upto_region 3 with (fail)
 clear c15;go_loopw [13] (fun s13 wr=>∃ (q:Nat) (t1:Str),q≤n∧s13=.int .i64 q∧t1++caseT (ls.drop q) (blksS (bs.drop q))=T∧Wx B g (l++t1) wr∧Fr B g w1 wr) (fun i _=>n-(intOf i).toNat)
 case atStart=>exact ⟨0,[67,65,83,69,32]++exS x++[32,79,70,10],Nat.zero_le _,rfl,by rw [List.drop_zero,List.drop_zero];exact HT.out,K2.out,F2.out⟩
 case round=>
  obtain ⟨q,t1,hq,rfl,ht,hk,hf⟩:=hrel;have h2:=H1.out.fr hf NG.out (by decide);by_cases hlt:q<n
  rotate_left
  ·obtain rfl:q=n:=by omega
   have hz:¬ (q:Int)<q:=by omega
   rw [List.drop_of_length_le (l:=ls) (by have:=HN.out;omega),caseT] at ht;have hlT:l.length+t1.length+(elseT (blksS (bs.drop q))).length+10≤lim:=by
    have h1:=HL.out;rw [←HTT.out,←ht] at h1;simp only [List.length_append,List.length_cons,List.length_nil] at h1;omega
   have EX:=qh (EL.out (l++t1) wr (F1.out.trans hf) hk (by rw [List.length_append];omega));have HTE:=qh ht;have HLT:=qh hlT;have FF:=qh (F1.out.trans hf);have hsl:=SLF.out;have c14:=(cell_of h2.box (i:=15) rfl).1;have c17:=(cell_of h2.box (i:=17) rfl).1;simp only [Sl.v] at c14 c17 EX;clear hk hf ht hlT h2 EL;go_wp2_with (go_at_call 128;fail)
   refine EX.out.mono ?_;rintro e w3 ⟨rfl,k9,f9⟩;rw [List.append_assoc,HTE.out] at k9;have K3:=qh k9;have F3:=qh (FF.out.trans f9);clear k9 f9 EX FF c14 c17 hsl;go_wp2_with (go_at_call 35;fail)
   refine (put_new [[69,78,68,95,67,65,83,69,59,10]] (t:=[69,78,68,95,67,65,83,69,59,10]) rfl K3.out (by decide) (by have h1:=HL.out;rw [←HTT.out] at h1;simp only [List.length_append,List.length_cons,List.length_nil] at h1 ⊢;omega)).mono ?_;rintro e w4 ⟨rfl,k9,f9⟩;rw [List.append_assoc,HTT.out] at k9;have K4:=qh k9;have F4:=qh (F3.out.trans f9);clear k9 f9 K3 F3;go_wp2_with fail
   go_end0
   exact ⟨rfl,K4.out,F4.out⟩
  have r1:Rd slC 1 wr B A1 n c1 CH:=HC.out.below (F1.out.trans hf).1;obtain ⟨b1,o1,eh,rfl,hb1,hp,hc1⟩:=r1.at hlt;obtain ⟨y0,hx,hxa⟩:=CXE.out q eh hp;have hxb:=CXB.out q y0 hx;have r2:Rd slC 1 wr B A4 m c4 BH:=HR.out.below (F1.out.trans hf).1;obtain ⟨b2,o2,bh,rfl,hb2,hp2,hc2⟩:=r2.at (i:=q) (by have:=HN.out;omega);obtain ⟨y,hy,hya⟩:=ST.out q bh hp2;rw [drop_at hx,blks_at hy,caseT] at ht;have ht2:(t1++(labT false y0++stsS y))++caseT (ls.drop (q+1)) (blksS (bs.drop (q+1)))=T:=by
   rw [←ht];simp only [List.append_assoc,List.headD_cons,List.drop_succ_cons,List.drop_zero]
  have hlT:l.length+t1.length+(labT false y0).length+(stsS y).length≤lim:=by
   have h1:=HL.out;rw [←HTT.out,←ht2] at h1;simp only [List.length_append,List.length_cons,List.length_nil] at h1;omega
  have w1':=nat_step q (by omega);have a1:=hc1 0 _ rfl;rw [Nat.add_zero,Nat.mul_one] at a1;have a0:wr.cell? ⟨b2,o2+q,none⟩=some bh.v:=by
   have a0:=hc2 0 _ rfl;rw [Nat.add_zero,Nat.mul_one] at a0;exact a0
  have BC:=qh fun W (hW:Fr B g wr W)=>(hW.1.cell (p:=⟨b2,o2+q,none⟩) hb2).trans a0
  clear a0;have LB:=qh (labels_any hk (hxa.below (F1.out.trans hf).1 (Nat.le_refl _)) hxb.1 hxb.2 (by rw [List.length_append];omega));have FF:=qh hf;have YA:=qh hya;have HY:=qh hy;have HT2:=qh ht2;have HLX:=qh hlT;have LT:=qh hlt;have LM:=qh (show q<m by have:=HN.out;omega);unfold Sl.v at a1;simp only [Sl.v] at LB;clear hc1 hk hf hxa hxb hx ht ht2 hlT r1 r2 hp hp2 hb1 hb2 hc2 hy hya h2 EL SLF;go_wp2_with (go_at_call 129;fail)
  refine LB.out.mono ?_;rintro e w5 ⟨rfl,k9,f9⟩;have K5:=qh k9;have F5:=qh (FF.out.trans f9);have F5':=qh f9;clear k9 f9 FF LB a1 hlt;have h5:=H1.out.fr F5.out NG.out (by decide);have c17:=(cell_of h5.box (i:=17) rfl).1;have a0:=BC.out _ F5'.out;have hlm:=LM.out;simp only [Sl.v] at c17 a0;have C2:=qh (CX.out y q HY.out bh B g _ w5 K5.out (YA.out.below (F1.out.trans F5.out).1 (Nat.le_refl _)) (by have h9:=HLX.out;simp only [List.length_append] at h9 ⊢;omega));simp only [Sl.v] at C2;clear h5;go_wp2_with (go_at_call 38;fail)
  refine C2.out.mono ?_;rintro e w6 ⟨rfl,k9,f9⟩;rw [List.append_assoc,List.append_assoc] at k9;have K6:=qh k9;have F6:=qh (F5.out.trans f9);clear k9 f9 K5 F5 C2 c17 a0 hlm;go_wp2_with fail
  go_roundw
  case rel=>exact ⟨q+1,t1++(labT false y0++stsS y),by have:=LT.out;omega,by go_num,HT2.out,K6.out,F6.out⟩
  case measure=>have:=LT.out;simp [intOf];omega
end sh
end Go.Proofs.YtdefgghhkknnpaaGreatDoor

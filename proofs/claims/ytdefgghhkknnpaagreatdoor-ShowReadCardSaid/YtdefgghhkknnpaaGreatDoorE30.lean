/- The reference's comparison of two rows of statements, but for lines: it tells whether they are the same; what was in memory is as it was. No condition. -/
import Derived.Test.YtdefgghhkknnpaaGreatDoorE29
set_option linter.unusedVariables false
set_option linter.unusedSimpArgs false
set_option maxRecDepth 100000
set_option maxHeartbeats 40000000
namespace Go.Proofs.YtdefgghhkknnpaaGreatDoor
namespace tr
open ChangeShapes WideShapes ChangeAt RowKit k rr tk
mutual
def stSize:St→Nat
 | .mk _ _ _ _ _ _ _ blocks _=>blksSize blocks+1
def stsSize:List St→Nat
 | []=>0
 | x::L=>stSize x+stsSize L
def blksSize:List (List St)→Nat
 | []=>0
 | b::L=>stsSize b+blksSize L
end
theorem blksSize_at:∀ {L:List (List St)} {i:Nat} {b:List St},L[i]?=some b→stsSize b≤blksSize L
 | [],i,_,h=>by simp at h
 | x::L,0,_,h=>by
  obtain rfl:x=_:=by simpa using h
  rw [blksSize];omega
 | x::L,i+1,_,h=>by
  have:=blksSize_at (L:=L) (i:=i) (by simpa using h);rw [blksSize];omega
theorem stsSize_at:∀ {L:List St} {i:Nat} {op:Int} {nm:Str} {d v:Ex} {cs:List Ex} {ls:List (List Int)} {fs:List Str} {bs:List (List St)} {ln:Int},L[i]?=some (.mk op nm d v cs ls fs bs ln)→blksSize bs<stsSize L
 | [],i,_,_,_,_,_,_,_,_,_,h=>by simp at h
 | x::L,0,_,_,_,_,_,_,_,_,_,h=>by
  obtain rfl:x=_:=by simpa using h
  rw [stsSize,stSize];omega
 | x::L,i+1,_,_,_,_,_,_,_,_,_,h=>by
  have:=stsSize_at (L:=L) (i:=i) (by simpa using h);rw [stsSize];omega
theorem stsSame_len:∀ {L M:List St},L.length≠M.length→stsSame L M=false
 | [],[],h=>absurd rfl h
 | [],_::_,_=>by simp [stsSame]
 | _::_,[],_=>by simp [stsSame]
 | x::L,y::M,h=>by rw [stsSame,stsSame_len (by simpa using h)];simp
theorem blksSame_len:∀ {L M:List (List St)},L.length≠M.length→blksSame L M=false
 | [],[],h=>absurd rfl h
 | [],_::_,_=>by simp [blksSame]
 | _::_,[],_=>by simp [blksSame]
 | x::L,y::M,h=>by rw [blksSame,blksSame_len (by simpa using h)];simp
theorem stsSame_at {L M:List St} {i:Nat} {x y:St} (h1:L[i]?=some x) (h2:M[i]?=some y):stsSame (L.drop i) (M.drop i)=(stSame x y&&stsSame (L.drop (i+1)) (M.drop (i+1))):=by
 obtain ⟨a1,a2⟩:=List.getElem?_eq_some_iff.1 h1;obtain ⟨b1,b2⟩:=List.getElem?_eq_some_iff.1 h2;rw [List.drop_eq_getElem_cons a1,List.drop_eq_getElem_cons b1,stsSame,a2,b2]
theorem blksSame_at {L M:List (List St)} {i:Nat} {x y:List St} (h1:L[i]?=some x) (h2:M[i]?=some y):blksSame (L.drop i) (M.drop i)=(stsSame x y&&blksSame (L.drop (i+1)) (M.drop (i+1))):=by
 obtain ⟨a1,a2⟩:=List.getElem?_eq_some_iff.1 h1;obtain ⟨b1,b2⟩:=List.getElem?_eq_some_iff.1 h2;rw [List.drop_eq_getElem_cons a1,List.drop_eq_getElem_cons b1,blksSame,a2,b2]
theorem two_row {α:Type} {enc:α→List Value} {z:Nat} (hz:∀ x,(enc x).length=z) (w:World) (e:TypeId) (x y:α) (cs:Array Value) (hc:cs.toList=enc x++enc y):Rd enc z (w.alloc (.cells cs e)) (w.heap.size+1) (some ⟨w.heap.size,0,none⟩) 2 2 [x,y]:=
 ⟨rfl,Nat.le_refl _,by unfold maxLen;omega,(fun h=>by cases h),fun _=>⟨_,0,rfl,by omega,fun i u hu j v hv=>by
  have hj:j<z:=by rw [←hz u];exact (List.getElem?_eq_some_iff.1 hv).1
  have hb:=(Box.new w cs e).range;have key:(enc x++enc y)[i*z+j]?=some v:=by
   match i,hu with
   | 0,hu=>
    obtain rfl:x=u:=by simpa using hu
    rw [Nat.zero_mul,Nat.zero_add,List.getElem?_append_left (by rw [hz];exact hj)];exact hv
   | 1,hu=>
    obtain rfl:y=u:=by simpa using hu
    rw [Nat.one_mul,List.getElem?_append_right (by rw [hz];omega),hz,Nat.add_sub_cancel_left];exact hv
  have h3:=hb (i*z+j) v (by rw [hc];exact key);rwa [Nat.zero_add] at h3 ⊢<;>(first|exact h3|rwa [Nat.zero_add])⟩⟩
theorem stC_ones (o:Int) (s:ByteArray) (a b:Int) (c d:ByteArray) (A:Option Addr) (l m:Nat) (e f g:Int) (h i:ByteArray) (B:Option Addr) (n p:Nat) (q:Int) (C:Option Addr) (r t:Nat) (D:Option Addr) (u v:Nat) (E:Option Addr) (x y:Nat) (F:Option Addr) (z zz:Nat) (ln:Int) :
  ∀ w∈[Value.int .i64 o,.string s,.int .i64 a,.int .i64 b,.string c,.string d,.slice A l m,.int .i64 e,.int .i64 f,.int .i64 g,.string h,.string i,.slice B n p,.int .i64 q,.slice C r t,.slice D u v,.slice E x y,.slice F z zz,.int .i64 ln],w.oneCell'=true:=by
 intro w hw;simp only [List.mem_cons,List.not_mem_nil,or_false] at hw;rcases hw with rfl|rfl|rfl|rfl|rfl|rfl|rfl|rfl|rfl|rfl|rfl|rfl|rfl|rfl|rfl|rfl|rfl|rfl|rfl<;>rfl
theorem rstmts_step (N:Nat) (IH0:∀ (La Lb:List St),stsSize La<N→∀ (sa sb:Sl) (w:World),StL w w.heap.size sa La→StL w w.heap.size sb Lb →
  Calls Tryz.prog 30 #[sa.v,sb.v,.bool false] w fun e w'=>e=.returned (.bool (stsSame La Lb))∧Below w.heap.size w w') (La Lb:List St) (hN:stsSize La<N+1):∀ (sa sb:Sl) (w:World),StL w w.heap.size sa La→StL w w.heap.size sb Lb →
  Calls Tryz.prog 30 #[sa.v,sb.v,.bool false] w fun e w'=>e=.returned (.bool (stsSame La Lb))∧Below w.heap.size w w':=by
  rintro ⟨A,n,cap⟩ ⟨A',n',cap'⟩ w ⟨H,h1,h2⟩ ⟨H',h3,h4⟩;have IH:=qh IH0;clear IH0;have l1:=h2.len;have l2:=h4.len;have h1:Rd sC 19 w w.heap.size A n cap H:=h1;have h3:Rd sC 19 w w.heap.size A' n' cap' H':=h3;have e1:=h1.1;have e2:=h3.1;have hnl:=h1.len_le;have hnl':=h3.len_le;simp only [Sl.v];by_cases hlen:n=n'
  rotate_left
  ·have hz:((n:Int) != n')=true:=by rw [bne_iff_ne];omega
   have HR:=qh (stsSame_len (L:=La) (M:=Lb) (by omega));clear h1 h2 h3 h4 IH;go_enter Tryz.func30,Tryz.ntmps30
   go_wp2;go_ret
   exact ⟨ret_bool HR.out.symm,Below.refl _ _⟩
  subst hlen;have R1:=qh h1;have R2:=qh h3;have E1:=qh h2;have E2:=qh h4;have LA:=qh (show La.length=n by omega);have LB:=qh (show Lb.length=n by omega);have HN:=qh hN;obtain ⟨R,hR⟩:∃ R,stsSame La Lb=R:=⟨_,rfl⟩;have HR:=qh hR;rw [hR];clear h1 h2 h3 h4 l1 l2 e1 e2 hN hR;go_enter Tryz.func30,Tryz.ntmps30
  go_upto_region 4 with (fail)
  go_loopw [7] (fun s7 wr=>∃ q:Nat,q≤n∧s7=.int .i64 q∧Rd sC 19 wr wr.heap.size A n cap H∧Rd sC 19 wr wr.heap.size A' n cap' H'∧StsAt wr wr.heap.size La H∧StsAt wr wr.heap.size Lb H'∧Below w.heap.size w wr∧stsSame (La.drop q) (Lb.drop q)=R) (fun i _=>n-(intOf i).toNat)
  case atStart=>exact ⟨0,Nat.zero_le _,rfl,R1.out,R2.out,E1.out,E2.out,Below.refl _ _,HR.out⟩
  case round=>
   obtain ⟨q,hq,rfl,hr1,hr2,he1,he2,hb,hs⟩:=hrel;clear R1 R2 E1 E2;by_cases hlt:q<n
   ·obtain ⟨b1,o1,hx,rfl,hb1,hp,hc1⟩:=hr1.at hlt
    obtain ⟨b2,o2,hy,rfl,hb2,hp',hc2⟩:=hr2.at hlt;obtain ⟨x,hx1,hx2⟩:=StsAt.at he1 hp;obtain ⟨y,hy1,hy2⟩:=StsAt.at he2 hp';rw [stsSame_at hx1 hy1] at hs;have R1:=qh hr1;have R2:=qh hr2;have E1:=qh he1;have E2:=qh he2;have HB:=qh hb;clear hr1 hr2 he1 he2 hb hp hp';obtain ⟨xo',nm1,D1,V1,C1,LB1,F1,K1,xln'⟩:=x;obtain ⟨xo,xs',⟨xdo,xdn,xds',xdf',⟨xdA,xdl,xdc⟩,xdln⟩,⟨xvo,xvn,xvs',xvf',⟨xvA,xvl,xvc⟩,xvln⟩,⟨xcA,xcl,xcc⟩,⟨xlA,xll,xlc⟩,⟨xfA,xfl,xfc⟩,⟨xbA,xbl,xbc⟩,xln⟩:=hx;unfold StAt at hx2;obtain ⟨rfl,rfl,rfl,xhd,xhv,xhc,⟨HL1,xg1,xg2⟩,xg3,HK1,xg4,xg5⟩:=hx2;obtain ⟨yo',nm2,D2,V2,C2,LB2,F2,K2,yln'⟩:=y;obtain ⟨yo,ys',⟨ydo,ydn,yds',ydf',⟨ydA,ydl,ydc⟩,ydln⟩,⟨yvo,yvn,yvs',yvf',⟨yvA,yvl,yvc⟩,yvln⟩,⟨ycA,ycl,ycc⟩,⟨ylA,yll,ylc⟩,⟨yfA,yfl,yfc⟩,⟨ybA,ybl,ybc⟩,yln⟩:=hy;unfold StAt at hy2;obtain ⟨rfl,rfl,rfl,yhd,yhv,yhc,⟨HL2,yg1,yg2⟩,yg3,HK2,yg4,yg5⟩:=hy2;have hsz:=stsSize_at hx1;simp only [sC,sv,Sl.v] at hc1 hc2;rw [stSame] at hs;obtain ⟨xs,hxs⟩:∃ z,(⟨xs'.toArray⟩:ByteArray)=z:=⟨_,rfl⟩;obtain ⟨xds,hxds⟩:∃ z,(⟨xds'.toArray⟩:ByteArray)=z:=⟨_,rfl⟩;obtain ⟨xdf,hxdf⟩:∃ z,(⟨xdf'.toArray⟩:ByteArray)=z:=⟨_,rfl⟩;obtain ⟨xvs,hxvs⟩:∃ z,(⟨xvs'.toArray⟩:ByteArray)=z:=⟨_,rfl⟩;obtain ⟨xvf,hxvf⟩:∃ z,(⟨xvf'.toArray⟩:ByteArray)=z:=⟨_,rfl⟩;rw [hxs,hxds,hxdf,hxvs,hxvf] at hc1;obtain ⟨ys,hys⟩:∃ z,(⟨ys'.toArray⟩:ByteArray)=z:=⟨_,rfl⟩;obtain ⟨yds,hyds⟩:∃ z,(⟨yds'.toArray⟩:ByteArray)=z:=⟨_,rfl⟩;obtain ⟨ydf,hydf⟩:∃ z,(⟨ydf'.toArray⟩:ByteArray)=z:=⟨_,rfl⟩;obtain ⟨yvs,hyvs⟩:∃ z,(⟨yvs'.toArray⟩:ByteArray)=z:=⟨_,rfl⟩;obtain ⟨yvf,hyvf⟩:∃ z,(⟨yvf'.toArray⟩:ByteArray)=z:=⟨_,rfl⟩;rw [hys,hyds,hydf,hyvs,hyvf] at hc2;have t2:=st_eq hxs hys;obtain ⟨u1,hu1⟩:∃ u,(xo==yo)=u:=⟨_,rfl⟩;obtain ⟨u2,hu2⟩:∃ u,(xs'==ys')=u:=⟨_,rfl⟩;obtain ⟨u3,hu3⟩:∃ u,(xll==yll)=u:=⟨_,rfl⟩;obtain ⟨u4,hu4⟩:∃ u,(xfl==yfl)=u:=⟨_,rfl⟩;obtain ⟨u5,hu5⟩:∃ u,(xbl==ybl)=u:=⟨_,rfl⟩;obtain ⟨u6,hu6⟩:∃ u,exsSame [D1,V1] [D2,V2]=u:=⟨_,rfl⟩;obtain ⟨u7,hu7⟩:∃ u,exsSame C1 C2=u:=⟨_,rfl⟩;have hu6':(exSame D1 D2&&(exSame V1 V2&&true))=u6:=by rw [←hu6,exsSame,exsSame,exsSame]
    rw [hu1,hu2,hu7] at hs;rw [hu2] at t2;have castB:∀ a b:Nat,((a:Int)==(b:Int))=(a==b):=fun a b=>by rw [Bool.eq_iff_iff,beq_iff_eq,beq_iff_eq];omega
    have v1:(xo != yo)=!u1:=by rw [bne,hu1]
    have v3:((xll:Int) != (yll:Int))=!u3:=by rw [bne,castB,hu3]
    have v4:((xfl:Int) != (yfl:Int))=!u4:=by rw [bne,castB,hu4]
    have v5:((xbl:Int) != (ybl:Int))=!u5:=by rw [bne,castB,hu5]
    have ll1:=xg1.1;have ll2:=yg1.1;have ll3:=xg2.len;have ll4:=yg2.len;have fl1:=xg3.1;have fl2:=yg3.1;have bl1:=xg4.1;have bl2:=yg4.1;have bl3:=xg5.len;have bl4:=yg5.len;simp only at ll1 ll2 fl1 fl2 bl1 bl2;have N3:=qh (show u3=false→(LB1==LB2)=false from fun h=>ne_len (by have:=hu3.trans h;rw [beq_eq_false_iff_ne] at this;omega));have N4:=qh (show u4=false→(F1==F2)=false from fun h=>ne_len (by have:=hu4.trans h;rw [beq_eq_false_iff_ne] at this;omega));have N5:=qh (show u5=false→blksSame K1 K2=false from fun h=>blksSame_len (by have:=hu5.trans h;rw [beq_eq_false_iff_ne] at this;omega));have Y3:=qh (show u3=true→xll=yll from fun h=>by have:=hu3.trans h;rw [beq_iff_eq] at this;exact this);have Y4:=qh (show u4=true→xfl=yfl from fun h=>by have:=hu4.trans h;rw [beq_iff_eq] at this;exact this);have Y5:=qh (show u5=true→xbl=ybl from fun h=>by have:=hu5.trans h;rw [beq_iff_eq] at this;exact this);have HS:=qh hs;have H6:=qh hu6';have bx1:=xg1.len_le;have bx2:=xg3.len_le;have bx3:=xg4.len_le;simp only at bx1 bx2 bx3;have LLN:=qh (show LB1.length=xll∧LB2.length=yll∧F1.length=xfl∧F2.length=yfl∧K1.length=xbl∧K2.length=ybl from ⟨by omega,by omega,fl1,fl2,by omega,by omega⟩);have XDV:=qh (show ∀ W,Below wr.heap.size wr W→ExsAt W W.heap.size [D1,V1] [⟨xdo,xdn,xds',xdf',⟨xdA,xdl,xdc⟩,xdln⟩,⟨xvo,xvn,xvs',xvf',⟨xvA,xvl,xvc⟩,xvln⟩] from fun W h=>by
     unfold ExsAt;refine ⟨_,_,rfl,ExAt.below h h.size xhd,?_⟩;unfold ExsAt;refine ⟨_,_,rfl,ExAt.below h h.size xhv,?_⟩;unfold ExsAt;rfl)
    have YDV:=qh (show ∀ W,Below wr.heap.size wr W→ExsAt W W.heap.size [D2,V2] [⟨ydo,ydn,yds',ydf',⟨ydA,ydl,ydc⟩,ydln⟩,⟨yvo,yvn,yvs',yvf',⟨yvA,yvl,yvc⟩,yvln⟩] from fun W h=>by
     unfold ExsAt;refine ⟨_,_,rfl,ExAt.below h h.size yhd,?_⟩;unfold ExsAt;refine ⟨_,_,rfl,ExAt.below h h.size yhv,?_⟩;unfold ExsAt;rfl)
    have SC6:=qh (show ∀ W sa sb,ExL W W.heap.size sa [D1,V1]→ExL W W.heap.size sb [D2,V2]→Calls Tryz.prog 53 #[sa.v,sb.v,.bool false] W fun e w'=>e=.returned (.bool u6)∧Below W.heap.size W w' from fun W sa sb h1 h2=>hu6 ▸ rexprs_any _ _ _ (Nat.lt_succ_self _) sa sb W h1 h2);have SC7:=qh (show ∀ W,Below wr.heap.size wr W→Calls Tryz.prog 53 #[.slice xcA xcl xcc,.slice ycA ycl ycc,.bool false] W fun e w'=>e=.returned (.bool u7)∧Below W.heap.size W w' from fun W h=>hu7 ▸ rexprs_any _ _ _ (Nat.lt_succ_self _) ⟨xcA,xcl,xcc⟩ ⟨ycA,ycl,ycc⟩ W (ExL.below xhc h h.size) (ExL.below yhc h h.size));have XL:=qh (show ∀ W,Below wr.heap.size wr W→RS slC 1 W W.heap.size ⟨xlA,xll,xlc⟩ HL1∧LabsAt W W.heap.size LB1 HL1 from fun W h=>⟨xg1.below h h.size,LabsAt.below h h.size xg2⟩);have YL:=qh (show ∀ W,Below wr.heap.size wr W→RS slC 1 W W.heap.size ⟨ylA,yll,ylc⟩ HL2∧LabsAt W W.heap.size LB2 HL2 from fun W h=>⟨yg1.below h h.size,LabsAt.below h h.size yg2⟩);have XF:=qh (show ∀ W,Below wr.heap.size wr W→RS tC1 1 W W.heap.size ⟨xfA,xfl,xfc⟩ F1 from fun W h=>xg3.below h h.size);have YF:=qh (show ∀ W,Below wr.heap.size wr W→RS tC1 1 W W.heap.size ⟨yfA,yfl,yfc⟩ F2 from fun W h=>yg3.below h h.size);have XK:=qh (show ∀ W,Below wr.heap.size wr W→RS slC 1 W W.heap.size ⟨xbA,xbl,xbc⟩ HK1∧BlksAt W W.heap.size K1 HK1 from fun W h=>⟨xg4.below h h.size,BlksAt.below h h.size xg5⟩);have YK:=qh (show ∀ W,Below wr.heap.size wr W→RS slC 1 W W.heap.size ⟨ybA,ybl,ybc⟩ HK2∧BlksAt W W.heap.size K2 HK2 from fun W h=>⟨yg4.below h h.size,BlksAt.below h h.size yg5⟩);have HSZ:=qh (show blksSize K1<N by have:=HN.out;omega);have DST:=qh (And.intro hxds (And.intro hxdf (And.intro hxvs hxvf)));have DST2:=qh (And.intro hyds (And.intro hydf (And.intro hyvs hyvf)));clear hx1 hy1 hs hsz xhd xhv xhc xg1 xg2 xg3 xg4 xg5 yhd yhv yhc yg1 yg2 yg3 yg4 yg5 hxs hys hxds hxdf hxvs hxvf hyds hydf hyvs hyvf hu1 hu2 hu3 hu4 hu5 hu6 hu6' hu7 ll1 ll2 ll3 ll4 fl1 fl2 bl1 bl2 bl3 bl4 castB;go_upto_region 6 with (fail)
    go_cut [8,9] from 24 to 31 (fun p q wx=>∃ g8 g9:Nat,p=.pointer (some ⟨g8,0,none⟩)∧q=.pointer (some ⟨g9,0,none⟩)∧Box wx g8 0 [.int .i64 xo,.string xs,.int .i64 xdo,.int .i64 xdn,.string xds,.string xdf,.slice xdA xdl xdc,.int .i64 xdln,.int .i64 xvo,.int .i64 xvn,.string xvs,.string xvf,.slice xvA xvl xvc,.int .i64 xvln,.slice xcA xcl xcc,.slice xlA xll xlc,.slice xfA xfl xfc,.slice xbA xbl xbc,.int .i64 xln]∧Box wx g9 0 [.int .i64 yo,.string ys,.int .i64 ydo,.int .i64 ydn,.string yds,.string ydf,.slice ydA ydl ydc,.int .i64 ydln,.int .i64 yvo,.int .i64 yvn,.string yvs,.string yvf,.slice yvA yvl yvc,.int .i64 yvln,.slice ycA ycl ycc,.slice ylA yll ylc,.slice yfA yfl yfc,.slice ybA ybl ybc,.int .i64 yln]∧g8≠g9∧wr.heap.size≤g8∧wr.heap.size≤g9∧g8<wx.heap.size∧g9<wx.heap.size∧Below wr.heap.size wr wx)
    case first=>
     refine wp_region_T (by kernel_rfl) (fun w'=>Below wr.heap.size wr w') [] (Below.refl _ _).drew (fun hHeld=>?_);refine tkr (i:=0) rfl ?_;try simp only [Act.put,List.setIfInBounds_toArray,List.set_cons_zero,List.set_cons_succ,List.getElem_toArray,List.getElem_cons_zero]
     refine tkr (i:=1) rfl ?_;try simp only [lq0,lq7,lq1,lq2,lq3,lq4,lq5,lq6]
     refine tkr (i:=2) rfl ?_;try simp only [lq0,lq7,lq1,lq2,lq3,lq4,lq5,lq6]
     refine wpAnyT_take (i:=3) rfl (by kernel_rfl) (by kernel_rfl) (by kernel_rfl) (fun _ _ _ h=>h) (yieldsIf_load_mid (by rfl) 49 (.tmp 26) rfl b1 (o1+q*19) rfl [.int .i64 xo,.string xs,.int .i64 xdo,.int .i64 xdn,.string xds,.string xdf,.slice xdA xdl xdc,.int .i64 xdln,.int .i64 xvo,.int .i64 xvn,.string xvs,.string xvf,.slice xvA xvl xvc,.int .i64 xvln,.slice xcA xcl xcc,.slice xlA xll xlc,.slice xfA xfl xfc,.slice xbA xbl xbc,.int .i64 xln] _ (fun _ hb'=>range_below hc1 hb' hb1) rfl rfl (by kernel_rfl)) (by assumption) ?_;try simp only [lq0,lq7,lq1,lq2,lq3,lq4,lq5,lq6]
     refine tkr (i:=4) rfl ?_;try simp only [lq0,lq7,lq1,lq2,lq3,lq4,lq5,lq6]
     refine tkr (i:=5) rfl ?_;try simp only [lq0,lq7,lq1,lq2,lq3,lq4,lq5,lq6]
     refine tkr (i:=6) rfl ?_;try simp only [lq0,lq7,lq1,lq2,lq3,lq4,lq5,lq6]
     refine wpAnyT_take (i:=7) rfl (by kernel_rfl) (by kernel_rfl) (by kernel_rfl) (fun _ _ _ h=>h) (yieldsIf_load_mid (by rfl) 49 (.tmp 30) rfl b2 (o2+q*19) rfl [.int .i64 yo,.string ys,.int .i64 ydo,.int .i64 ydn,.string yds,.string ydf,.slice ydA ydl ydc,.int .i64 ydln,.int .i64 yvo,.int .i64 yvn,.string yvs,.string yvf,.slice yvA yvl yvc,.int .i64 yvln,.slice ycA ycl ycc,.slice ylA yll ylc,.slice yfA yfl yfc,.slice ybA ybl ybc,.int .i64 yln] _ (fun _ hb'=>range_below hc2 hb' hb2) rfl rfl (by kernel_rfl)) (by assumption) ?_;try simp only [lq0,lq7,lq1,lq2,lq3,lq4,lq5,lq6]
     refine wpAnyT_ready (rs:=[8,9]) (by kernel_rfl) (by simp) ?_;refine AllReadyT.cons rfl (fun K hK=>?_) (AllReadyT.cons rfl (fun K hK=>?_) AllReadyT.nil)
     ·go_simp
      have hA:Below wr.heap.size wr (wr.alloc (.cells #[.int .i64 0,.string ⟨#[]⟩,.int .i64 0,.int .i64 0,.string ⟨#[]⟩,.string ⟨#[]⟩,.slice none 0 0,.int .i64 0,.int .i64 0,.int .i64 0,.string ⟨#[]⟩,.string ⟨#[]⟩,.slice none 0 0,.int .i64 0,.slice none 0 0,.slice none 0 0,.slice none 0 0,.slice none 0 0,.int .i64 0] 49)).drew:=((Below.refl _ _).alloc (Nat.le_refl _) _).drew;refine hK.out _ _ hA (fun hHeld=>?_);clear hK K hA;try simp only [lq0,lq7,lq1,lq2,lq3,lq4,lq5,lq6]
      refine wpAnyT_ready (rs:=[9]) (by kernel_rfl) (by simp) ?_;refine AllReadyT.cons rfl (fun K hK=>?_) AllReadyT.nil;go_simp;obtain ⟨x1,x2,hb,hz⟩:=boxes2 (Below.refl ((wr.alloc (.cells #[.int .i64 0,.string ⟨#[]⟩,.int .i64 0,.int .i64 0,.string ⟨#[]⟩,.string ⟨#[]⟩,.slice none 0 0,.int .i64 0,.int .i64 0,.int .i64 0,.string ⟨#[]⟩,.string ⟨#[]⟩,.slice none 0 0,.int .i64 0,.slice none 0 0,.slice none 0 0,.slice none 0 0,.slice none 0 0,.int .i64 0] 49)).alloc (.cells #[.int .i64 0,.string ⟨#[]⟩,.int .i64 0,.int .i64 0,.string ⟨#[]⟩,.string ⟨#[]⟩,.slice none 0 0,.int .i64 0,.int .i64 0,.int .i64 0,.string ⟨#[]⟩,.string ⟨#[]⟩,.slice none 0 0,.int .i64 0,.slice none 0 0,.slice none 0 0,.slice none 0 0,.slice none 0 0,.int .i64 0] 49)).heap.size ((wr.alloc (.cells #[.int .i64 0,.string ⟨#[]⟩,.int .i64 0,.int .i64 0,.string ⟨#[]⟩,.string ⟨#[]⟩,.slice none 0 0,.int .i64 0,.int .i64 0,.int .i64 0,.string ⟨#[]⟩,.string ⟨#[]⟩,.slice none 0 0,.int .i64 0,.slice none 0 0,.slice none 0 0,.slice none 0 0,.slice none 0 0,.int .i64 0] 49)).alloc (.cells #[.int .i64 0,.string ⟨#[]⟩,.int .i64 0,.int .i64 0,.string ⟨#[]⟩,.string ⟨#[]⟩,.slice none 0 0,.int .i64 0,.int .i64 0,.int .i64 0,.string ⟨#[]⟩,.string ⟨#[]⟩,.slice none 0 0,.int .i64 0,.slice none 0 0,.slice none 0 0,.slice none 0 0,.slice none 0 0,.int .i64 0] 49)));have hB:Below wr.heap.size wr ((wr.alloc (.cells #[.int .i64 0,.string ⟨#[]⟩,.int .i64 0,.int .i64 0,.string ⟨#[]⟩,.string ⟨#[]⟩,.slice none 0 0,.int .i64 0,.int .i64 0,.int .i64 0,.string ⟨#[]⟩,.string ⟨#[]⟩,.slice none 0 0,.int .i64 0,.slice none 0 0,.slice none 0 0,.slice none 0 0,.slice none 0 0,.int .i64 0] 49)).alloc (.cells #[.int .i64 0,.string ⟨#[]⟩,.int .i64 0,.int .i64 0,.string ⟨#[]⟩,.string ⟨#[]⟩,.slice none 0 0,.int .i64 0,.int .i64 0,.int .i64 0,.string ⟨#[]⟩,.string ⟨#[]⟩,.slice none 0 0,.int .i64 0,.slice none 0 0,.slice none 0 0,.slice none 0 0,.slice none 0 0,.int .i64 0] 49)).drew:=hb.drew;have y1:=sbox_drew x1;have y2:=sbox_drew x2;have z2:wr.heap.size+1<((wr.alloc (.cells #[.int .i64 0,.string ⟨#[]⟩,.int .i64 0,.int .i64 0,.string ⟨#[]⟩,.string ⟨#[]⟩,.slice none 0 0,.int .i64 0,.int .i64 0,.int .i64 0,.string ⟨#[]⟩,.string ⟨#[]⟩,.slice none 0 0,.int .i64 0,.slice none 0 0,.slice none 0 0,.slice none 0 0,.slice none 0 0,.int .i64 0] 49)).alloc (.cells #[.int .i64 0,.string ⟨#[]⟩,.int .i64 0,.int .i64 0,.string ⟨#[]⟩,.string ⟨#[]⟩,.slice none 0 0,.int .i64 0,.int .i64 0,.int .i64 0,.string ⟨#[]⟩,.string ⟨#[]⟩,.slice none 0 0,.int .i64 0,.slice none 0 0,.slice none 0 0,.slice none 0 0,.slice none 0 0,.int .i64 0] 49)).drew.heap.size:=hz;clear x1 x2 hb hz;generalize ((wr.alloc (.cells #[.int .i64 0,.string ⟨#[]⟩,.int .i64 0,.int .i64 0,.string ⟨#[]⟩,.string ⟨#[]⟩,.slice none 0 0,.int .i64 0,.int .i64 0,.int .i64 0,.string ⟨#[]⟩,.string ⟨#[]⟩,.slice none 0 0,.int .i64 0,.slice none 0 0,.slice none 0 0,.slice none 0 0,.slice none 0 0,.int .i64 0] 49)).alloc (.cells #[.int .i64 0,.string ⟨#[]⟩,.int .i64 0,.int .i64 0,.string ⟨#[]⟩,.string ⟨#[]⟩,.slice none 0 0,.int .i64 0,.int .i64 0,.int .i64 0,.string ⟨#[]⟩,.string ⟨#[]⟩,.slice none 0 0,.int .i64 0,.slice none 0 0,.slice none 0 0,.slice none 0 0,.slice none 0 0,.int .i64 0] 49)).drew=w2 at *;have X1:=qh y1;have X2:=qh y2;clear y1 y2;refine hK.out _ _ hB (fun hHeld=>?_);clear hK K hHeld;try simp only [lq0,lq7,lq1,lq2,lq3,lq4,lq5,lq6]
      refine wpAnyT_ready (rs:=[10]) (by kernel_rfl) (by simp) ?_;refine AllReadyT.cons rfl (fun K hK=>?_) AllReadyT.nil;obtain ⟨w3,hW,x,hz,hb,_⟩:=k.stored (us:=[.int .i64 xo,.string xs,.int .i64 xdo,.int .i64 xdn,.string xds,.string xdf,.slice xdA xdl xdc,.int .i64 xdln,.int .i64 xvo,.int .i64 xvn,.string xvs,.string xvf,.slice xvA xvl xvc,.int .i64 xvln,.slice xcA xcl xcc,.slice xlA xll xlc,.slice xfA xfl xfc,.slice xbA xbl xbc,.int .i64 xln]) X1.out rfl;have y:=aside_stored hW (by omega:wr.heap.size≠(wr.heap.size+1)) X2.out;refine wp_store_mid 49 (.tmp 8) (.tmp 27) rfl wr.heap.size 0 ([.int .i64 xo,.string xs,.int .i64 xdo,.int .i64 xdn,.string xds,.string xdf,.slice xdA xdl xdc,.int .i64 xdln,.int .i64 xvo,.int .i64 xvn,.string xvs,.string xvf,.slice xvA xvl xvc,.int .i64 xvln,.slice xcA xcl xcc,.slice xlA xll xlc,.slice xfA xfl xfc,.slice xbA xbl xbc,.int .i64 xln]).toArray rfl rfl (there_of X1.out rfl) (by kernel_rfl) (all_oneCell_toArray (stC_ones _ _ _ _ _ _ _ _ _ _ _ _ _ _ _ _ _ _ _ _ _ _ _ _ _ _ _ _ _ _ _)) ?_;have hBn:=hB.trans (hb wr.heap.size (by omega));have z2n:wr.heap.size+1<w3.heap.size:=by rw [hz];exact z2
      simp only [hW];have X1n:=qh x;have X2n:=qh y;clear hb hz hW x y hB z2 X1 X2;have hB:=hBn;have z2:=z2n;have X1:=qh X1n.out;have X2:=qh X2n.out;clear hBn z2n X1n X2n;refine hK.out _ _ hB (fun hHeld=>?_);clear hK K hHeld;try simp only [Act.put,List.getElem_toArray,List.getElem_cons_succ,List.getElem_cons_zero]
      refine wpAnyT_ready (rs:=[11]) (by kernel_rfl) (by simp) ?_;refine AllReadyT.cons rfl (fun K hK=>?_) AllReadyT.nil;obtain ⟨w4,hW,x,hz,hb,_⟩:=k.stored (us:=[.int .i64 yo,.string ys,.int .i64 ydo,.int .i64 ydn,.string yds,.string ydf,.slice ydA ydl ydc,.int .i64 ydln,.int .i64 yvo,.int .i64 yvn,.string yvs,.string yvf,.slice yvA yvl yvc,.int .i64 yvln,.slice ycA ycl ycc,.slice ylA yll ylc,.slice yfA yfl yfc,.slice ybA ybl ybc,.int .i64 yln]) X2.out rfl;have y:=aside_stored hW (by omega:(wr.heap.size+1)≠wr.heap.size) X1.out;refine wp_store_mid 49 (.tmp 9) (.tmp 31) rfl (wr.heap.size+1) 0 ([.int .i64 yo,.string ys,.int .i64 ydo,.int .i64 ydn,.string yds,.string ydf,.slice ydA ydl ydc,.int .i64 ydln,.int .i64 yvo,.int .i64 yvn,.string yvs,.string yvf,.slice yvA yvl yvc,.int .i64 yvln,.slice ycA ycl ycc,.slice ylA yll ylc,.slice yfA yfl yfc,.slice ybA ybl ybc,.int .i64 yln]).toArray rfl rfl (there_of X2.out rfl) (by kernel_rfl) (all_oneCell_toArray (stC_ones _ _ _ _ _ _ _ _ _ _ _ _ _ _ _ _ _ _ _ _ _ _ _ _ _ _ _ _ _ _ _)) ?_;have hBn:=hB.trans (hb wr.heap.size (by omega));have z2n:wr.heap.size+1<w4.heap.size:=by rw [hz];exact z2
      simp only [hW];have X2n:=qh x;have X1n:=qh y;clear hb hz hW x y hB z2 X1 X2;have hB:=hBn;have z2:=z2n;have X1:=qh X1n.out;have X2:=qh X2n.out;clear hBn z2n X1n X2n;refine hK.out _ _ hB (fun hHeld=>?_);clear hK K hHeld;try simp only [Act.put,List.getElem_toArray,List.getElem_cons_succ,List.getElem_cons_zero]
      refine wpAnyT_done (by kernel_rfl) ?_ _;go_wp2_with fail
      go_meet
      case rel=>exact ⟨wr.heap.size,(wr.heap.size+1),rfl,rfl,X1.out,X2.out,by omega,by omega,by omega,by omega,by omega,hB⟩
     ·go_simp
      have hA:Below wr.heap.size wr (wr.alloc (.cells #[.int .i64 0,.string ⟨#[]⟩,.int .i64 0,.int .i64 0,.string ⟨#[]⟩,.string ⟨#[]⟩,.slice none 0 0,.int .i64 0,.int .i64 0,.int .i64 0,.string ⟨#[]⟩,.string ⟨#[]⟩,.slice none 0 0,.int .i64 0,.slice none 0 0,.slice none 0 0,.slice none 0 0,.slice none 0 0,.int .i64 0] 49)).drew:=((Below.refl _ _).alloc (Nat.le_refl _) _).drew;refine hK.out _ _ hA (fun hHeld=>?_);clear hK K hA;try simp only [lq0,lq7,lq1,lq2,lq3,lq4,lq5,lq6]
      refine wpAnyT_ready (rs:=[8]) (by kernel_rfl) (by simp) ?_;refine AllReadyT.cons rfl (fun K hK=>?_) AllReadyT.nil;go_simp;obtain ⟨x1,x2,hb,hz⟩:=boxes2 (Below.refl ((wr.alloc (.cells #[.int .i64 0,.string ⟨#[]⟩,.int .i64 0,.int .i64 0,.string ⟨#[]⟩,.string ⟨#[]⟩,.slice none 0 0,.int .i64 0,.int .i64 0,.int .i64 0,.string ⟨#[]⟩,.string ⟨#[]⟩,.slice none 0 0,.int .i64 0,.slice none 0 0,.slice none 0 0,.slice none 0 0,.slice none 0 0,.int .i64 0] 49)).alloc (.cells #[.int .i64 0,.string ⟨#[]⟩,.int .i64 0,.int .i64 0,.string ⟨#[]⟩,.string ⟨#[]⟩,.slice none 0 0,.int .i64 0,.int .i64 0,.int .i64 0,.string ⟨#[]⟩,.string ⟨#[]⟩,.slice none 0 0,.int .i64 0,.slice none 0 0,.slice none 0 0,.slice none 0 0,.slice none 0 0,.int .i64 0] 49)).heap.size ((wr.alloc (.cells #[.int .i64 0,.string ⟨#[]⟩,.int .i64 0,.int .i64 0,.string ⟨#[]⟩,.string ⟨#[]⟩,.slice none 0 0,.int .i64 0,.int .i64 0,.int .i64 0,.string ⟨#[]⟩,.string ⟨#[]⟩,.slice none 0 0,.int .i64 0,.slice none 0 0,.slice none 0 0,.slice none 0 0,.slice none 0 0,.int .i64 0] 49)).alloc (.cells #[.int .i64 0,.string ⟨#[]⟩,.int .i64 0,.int .i64 0,.string ⟨#[]⟩,.string ⟨#[]⟩,.slice none 0 0,.int .i64 0,.int .i64 0,.int .i64 0,.string ⟨#[]⟩,.string ⟨#[]⟩,.slice none 0 0,.int .i64 0,.slice none 0 0,.slice none 0 0,.slice none 0 0,.slice none 0 0,.int .i64 0] 49)));have hB:Below wr.heap.size wr ((wr.alloc (.cells #[.int .i64 0,.string ⟨#[]⟩,.int .i64 0,.int .i64 0,.string ⟨#[]⟩,.string ⟨#[]⟩,.slice none 0 0,.int .i64 0,.int .i64 0,.int .i64 0,.string ⟨#[]⟩,.string ⟨#[]⟩,.slice none 0 0,.int .i64 0,.slice none 0 0,.slice none 0 0,.slice none 0 0,.slice none 0 0,.int .i64 0] 49)).alloc (.cells #[.int .i64 0,.string ⟨#[]⟩,.int .i64 0,.int .i64 0,.string ⟨#[]⟩,.string ⟨#[]⟩,.slice none 0 0,.int .i64 0,.int .i64 0,.int .i64 0,.string ⟨#[]⟩,.string ⟨#[]⟩,.slice none 0 0,.int .i64 0,.slice none 0 0,.slice none 0 0,.slice none 0 0,.slice none 0 0,.int .i64 0] 49)).drew:=hb.drew;have y1:=sbox_drew x1;have y2:=sbox_drew x2;have z2:wr.heap.size+1<((wr.alloc (.cells #[.int .i64 0,.string ⟨#[]⟩,.int .i64 0,.int .i64 0,.string ⟨#[]⟩,.string ⟨#[]⟩,.slice none 0 0,.int .i64 0,.int .i64 0,.int .i64 0,.string ⟨#[]⟩,.string ⟨#[]⟩,.slice none 0 0,.int .i64 0,.slice none 0 0,.slice none 0 0,.slice none 0 0,.slice none 0 0,.int .i64 0] 49)).alloc (.cells #[.int .i64 0,.string ⟨#[]⟩,.int .i64 0,.int .i64 0,.string ⟨#[]⟩,.string ⟨#[]⟩,.slice none 0 0,.int .i64 0,.int .i64 0,.int .i64 0,.string ⟨#[]⟩,.string ⟨#[]⟩,.slice none 0 0,.int .i64 0,.slice none 0 0,.slice none 0 0,.slice none 0 0,.slice none 0 0,.int .i64 0] 49)).drew.heap.size:=hz;clear x1 x2 hb hz;generalize ((wr.alloc (.cells #[.int .i64 0,.string ⟨#[]⟩,.int .i64 0,.int .i64 0,.string ⟨#[]⟩,.string ⟨#[]⟩,.slice none 0 0,.int .i64 0,.int .i64 0,.int .i64 0,.string ⟨#[]⟩,.string ⟨#[]⟩,.slice none 0 0,.int .i64 0,.slice none 0 0,.slice none 0 0,.slice none 0 0,.slice none 0 0,.int .i64 0] 49)).alloc (.cells #[.int .i64 0,.string ⟨#[]⟩,.int .i64 0,.int .i64 0,.string ⟨#[]⟩,.string ⟨#[]⟩,.slice none 0 0,.int .i64 0,.int .i64 0,.int .i64 0,.string ⟨#[]⟩,.string ⟨#[]⟩,.slice none 0 0,.int .i64 0,.slice none 0 0,.slice none 0 0,.slice none 0 0,.slice none 0 0,.int .i64 0] 49)).drew=w2 at *;have X1:=qh y1;have X2:=qh y2;clear y1 y2;refine hK.out _ _ hB (fun hHeld=>?_);clear hK K hHeld;try simp only [lq0,lq7,lq1,lq2,lq3,lq4,lq5,lq6]
      refine wpAnyT_ready (rs:=[10]) (by kernel_rfl) (by simp) ?_;refine AllReadyT.cons rfl (fun K hK=>?_) AllReadyT.nil;obtain ⟨w3,hW,x,hz,hb,_⟩:=k.stored (us:=[.int .i64 xo,.string xs,.int .i64 xdo,.int .i64 xdn,.string xds,.string xdf,.slice xdA xdl xdc,.int .i64 xdln,.int .i64 xvo,.int .i64 xvn,.string xvs,.string xvf,.slice xvA xvl xvc,.int .i64 xvln,.slice xcA xcl xcc,.slice xlA xll xlc,.slice xfA xfl xfc,.slice xbA xbl xbc,.int .i64 xln]) X2.out rfl;have y:=aside_stored hW (by omega:(wr.heap.size+1)≠wr.heap.size) X1.out;refine wp_store_mid 49 (.tmp 8) (.tmp 27) rfl (wr.heap.size+1) 0 ([.int .i64 xo,.string xs,.int .i64 xdo,.int .i64 xdn,.string xds,.string xdf,.slice xdA xdl xdc,.int .i64 xdln,.int .i64 xvo,.int .i64 xvn,.string xvs,.string xvf,.slice xvA xvl xvc,.int .i64 xvln,.slice xcA xcl xcc,.slice xlA xll xlc,.slice xfA xfl xfc,.slice xbA xbl xbc,.int .i64 xln]).toArray rfl rfl (there_of X2.out rfl) (by kernel_rfl) (all_oneCell_toArray (stC_ones _ _ _ _ _ _ _ _ _ _ _ _ _ _ _ _ _ _ _ _ _ _ _ _ _ _ _ _ _ _ _)) ?_;have hBn:=hB.trans (hb wr.heap.size (by omega));have z2n:wr.heap.size+1<w3.heap.size:=by rw [hz];exact z2
      simp only [hW];have X2n:=qh x;have X1n:=qh y;clear hb hz hW x y hB z2 X1 X2;have hB:=hBn;have z2:=z2n;have X1:=qh X1n.out;have X2:=qh X2n.out;clear hBn z2n X1n X2n;refine hK.out _ _ hB (fun hHeld=>?_);clear hK K hHeld;try simp only [Act.put,List.getElem_toArray,List.getElem_cons_succ,List.getElem_cons_zero]
      refine wpAnyT_ready (rs:=[11]) (by kernel_rfl) (by simp) ?_;refine AllReadyT.cons rfl (fun K hK=>?_) AllReadyT.nil;obtain ⟨w4,hW,x,hz,hb,_⟩:=k.stored (us:=[.int .i64 yo,.string ys,.int .i64 ydo,.int .i64 ydn,.string yds,.string ydf,.slice ydA ydl ydc,.int .i64 ydln,.int .i64 yvo,.int .i64 yvn,.string yvs,.string yvf,.slice yvA yvl yvc,.int .i64 yvln,.slice ycA ycl ycc,.slice ylA yll ylc,.slice yfA yfl yfc,.slice ybA ybl ybc,.int .i64 yln]) X1.out rfl;have y:=aside_stored hW (by omega:wr.heap.size≠(wr.heap.size+1)) X2.out;refine wp_store_mid 49 (.tmp 9) (.tmp 31) rfl wr.heap.size 0 ([.int .i64 yo,.string ys,.int .i64 ydo,.int .i64 ydn,.string yds,.string ydf,.slice ydA ydl ydc,.int .i64 ydln,.int .i64 yvo,.int .i64 yvn,.string yvs,.string yvf,.slice yvA yvl yvc,.int .i64 yvln,.slice ycA ycl ycc,.slice ylA yll ylc,.slice yfA yfl yfc,.slice ybA ybl ybc,.int .i64 yln]).toArray rfl rfl (there_of X1.out rfl) (by kernel_rfl) (all_oneCell_toArray (stC_ones _ _ _ _ _ _ _ _ _ _ _ _ _ _ _ _ _ _ _ _ _ _ _ _ _ _ _ _ _ _ _)) ?_;have hBn:=hB.trans (hb wr.heap.size (by omega));have z2n:wr.heap.size+1<w4.heap.size:=by rw [hz];exact z2
      simp only [hW];have X1n:=qh x;have X2n:=qh y;clear hb hz hW x y hB z2 X1 X2;have hB:=hBn;have z2:=z2n;have X1:=qh X1n.out;have X2:=qh X2n.out;clear hBn z2n X1n X2n;refine hK.out _ _ hB (fun hHeld=>?_);clear hK K hHeld;try simp only [Act.put,List.getElem_toArray,List.getElem_cons_succ,List.getElem_cons_zero]
      refine wpAnyT_done (by kernel_rfl) ?_ _;go_wp2_with fail
      go_meet
      case rel=>exact ⟨(wr.heap.size+1),wr.heap.size,rfl,rfl,X2.out,X1.out,by omega,by omega,by omega,by omega,by omega,hB⟩
    case rest=>
     obtain ⟨g8,g9,rfl,rfl,hx8,hx9,hne,_,_,hl8,hl9,hBc⟩:=hcut;obtain ⟨wo,rfl⟩:∃ wo:World,wo=wr:=⟨_,rfl⟩;have X8:=qh hx8;have X9:=qh hx9;have BC:=qh hBc;have L8:=qh hl8;have L9:=qh hl9;clear hBc hx8 hx9 hl8 hl9;have a0:=(k.cell_of X8.out (i:=0) rfl).1;have a1:=(k.cell_of X8.out (i:=1) rfl).1;have a15:=(k.cell_of X8.out (i:=15) rfl).1;have a16:=(k.cell_of X8.out (i:=16) rfl).1;have a17:=(k.cell_of X8.out (i:=17) rfl).1;have d0:=(k.cell_of X9.out (i:=0) rfl).1;have d1:=(k.cell_of X9.out (i:=1) rfl).1;have d15:=(k.cell_of X9.out (i:=15) rfl).1;have d16:=(k.cell_of X9.out (i:=16) rfl).1;have d17:=(k.cell_of X9.out (i:=17) rfl).1;cases u1
     ·rw [Bool.not_false] at v1
      have HR2:=qh (show R=false by rw [←HS.out];simp);go_wp2_with fail
      go_ret
      exact ⟨ret_bool HR2.out.symm,HB.out.trans (BC.out.mono HB.out.size)⟩
     rw [Bool.not_true] at v1;cases u2
     ·skip
      have HR2:=qh (show R=false by rw [←HS.out];simp);go_wp2_with fail
      go_ret
      exact ⟨ret_bool HR2.out.symm,HB.out.trans (BC.out.mono HB.out.size)⟩
     cases u3
     ·rw [Bool.not_false] at v3
      have HR2:=qh (show R=false by rw [←HS.out,N3.out rfl];simp);go_wp2_with fail
      go_ret
      exact ⟨ret_bool HR2.out.symm,HB.out.trans (BC.out.mono HB.out.size)⟩
     rw [Bool.not_true] at v3;obtain rfl:=Y3.out rfl;cases u4
     ·rw [Bool.not_false] at v4
      have HR2:=qh (show R=false by rw [←HS.out,N4.out rfl];simp);go_wp2_with fail
      go_ret
      exact ⟨ret_bool HR2.out.symm,HB.out.trans (BC.out.mono HB.out.size)⟩
     rw [Bool.not_true] at v4;obtain rfl:=Y4.out rfl;cases u5
     ·rw [Bool.not_false] at v5
      have HR2:=qh (show R=false by rw [←HS.out,N5.out rfl];simp);go_wp2_with fail
      go_ret
      exact ⟨ret_bool HR2.out.symm,HB.out.trans (BC.out.mono HB.out.size)⟩
     rw [Bool.not_true] at v5;obtain rfl:=Y5.out rfl;go_upto_region 9 with (fail)
     clear a0 a1 a15 a16 a17 d0 d1 d15 d16 d17 t2 v1 v3 v4 v5;have a2:=(k.cell_of X8.out (i:=2) rfl).1;have a3:=(k.cell_of X8.out (i:=3) rfl).1;have a4:=(k.cell_of X8.out (i:=4) rfl).1;have a5:=(k.cell_of X8.out (i:=5) rfl).1;have a6:=(k.cell_of X8.out (i:=6) rfl).1;have a7:=(k.cell_of X8.out (i:=7) rfl).1;have a8:=(k.cell_of X8.out (i:=8) rfl).1;have a9:=(k.cell_of X8.out (i:=9) rfl).1;have a10:=(k.cell_of X8.out (i:=10) rfl).1;have a11:=(k.cell_of X8.out (i:=11) rfl).1;have a12:=(k.cell_of X8.out (i:=12) rfl).1;have a13:=(k.cell_of X8.out (i:=13) rfl).1;have d2:=(k.cell_of X9.out (i:=2) rfl).1;have d3:=(k.cell_of X9.out (i:=3) rfl).1;have d4:=(k.cell_of X9.out (i:=4) rfl).1;have d5:=(k.cell_of X9.out (i:=5) rfl).1;have d6:=(k.cell_of X9.out (i:=6) rfl).1;have d7:=(k.cell_of X9.out (i:=7) rfl).1;have d8:=(k.cell_of X9.out (i:=8) rfl).1;have d9:=(k.cell_of X9.out (i:=9) rfl).1;have d10:=(k.cell_of X9.out (i:=10) rfl).1;have d11:=(k.cell_of X9.out (i:=11) rfl).1;have d12:=(k.cell_of X9.out (i:=12) rfl).1;have d13:=(k.cell_of X9.out (i:=13) rfl).1;have l8:=L8.out;have l9:=L9.out;have l8':g8<wc.heap.size+1:=by omega
     have l9':g9<wc.heap.size+1:=by omega
     go_wp2_with (go_at_call 53;fail)
     clear l8 l9 l8' l9';have b9a:=Below.alloc (Below.refl wc.heap.size wc) (Nat.le_refl _) (.cells #[.int .i64 xdo,.int .i64 xdn,.string xds,.string xdf,.slice xdA xdl xdc,.int .i64 xdln,.int .i64 xvo,.int .i64 xvn,.string xvs,.string xvf,.slice xvA xvl xvc,.int .i64 xvln] 44);have b9b:=Below.alloc (Below.refl (wc.alloc (.cells #[.int .i64 xdo,.int .i64 xdn,.string xds,.string xdf,.slice xdA xdl xdc,.int .i64 xdln,.int .i64 xvo,.int .i64 xvn,.string xvs,.string xvf,.slice xvA xvl xvc,.int .i64 xvln] 44)).heap.size (wc.alloc (.cells #[.int .i64 xdo,.int .i64 xdn,.string xds,.string xdf,.slice xdA xdl xdc,.int .i64 xdln,.int .i64 xvo,.int .i64 xvn,.string xvs,.string xvf,.slice xvA xvl xvc,.int .i64 xvln] 44))) (Nat.le_refl _) (.cells #[.int .i64 ydo,.int .i64 ydn,.string yds,.string ydf,.slice ydA ydl ydc,.int .i64 ydln,.int .i64 yvo,.int .i64 yvn,.string yvs,.string yvf,.slice yvA yvl yvc,.int .i64 yvln] 44);have b9:=b9a.trans (b9b.mono b9a.size);have z9:(wc.alloc (.cells #[.int .i64 xdo,.int .i64 xdn,.string xds,.string xdf,.slice xdA xdl xdc,.int .i64 xdln,.int .i64 xvo,.int .i64 xvn,.string xvs,.string xvf,.slice xvA xvl xvc,.int .i64 xvln] 44)).heap.size=wc.heap.size+1:=by simp
     have r9x:=two_row eC_len wc 44 (⟨xdo,xdn,xds',xdf',⟨xdA,xdl,xdc⟩,xdln⟩:EH) ⟨xvo,xvn,xvs',xvf',⟨xvA,xvl,xvc⟩,xvln⟩ #[.int .i64 xdo,.int .i64 xdn,.string xds,.string xdf,.slice xdA xdl xdc,.int .i64 xdln,.int .i64 xvo,.int .i64 xvn,.string xvs,.string xvf,.slice xvA xvl xvc,.int .i64 xvln] (by obtain ⟨s1,s2,s3,s4⟩:=DST.out;simp only [eC,sv,Sl.v,s1,s2,s3,s4];rfl);have r9y:=two_row eC_len (wc.alloc (.cells #[.int .i64 xdo,.int .i64 xdn,.string xds,.string xdf,.slice xdA xdl xdc,.int .i64 xdln,.int .i64 xvo,.int .i64 xvn,.string xvs,.string xvf,.slice xvA xvl xvc,.int .i64 xvln] 44)) 44 (⟨ydo,ydn,yds',ydf',⟨ydA,ydl,ydc⟩,ydln⟩:EH) ⟨yvo,yvn,yvs',yvf',⟨yvA,yvl,yvc⟩,yvln⟩ #[.int .i64 ydo,.int .i64 ydn,.string yds,.string ydf,.slice ydA ydl ydc,.int .i64 ydln,.int .i64 yvo,.int .i64 yvn,.string yvs,.string yvf,.slice yvA yvl yvc,.int .i64 yvln] (by obtain ⟨s1,s2,s3,s4⟩:=DST2.out;simp only [eC,sv,Sl.v,s1,s2,s3,s4];rfl);have r9x:=(r9x.below (by rw [←z9];exact b9b)).more (show wc.heap.size+1≤_ by rw [←z9];exact b9b.size);have r9y:=r9y.more (show _≤((wc.alloc (.cells #[.int .i64 xdo,.int .i64 xdn,.string xds,.string xdf,.slice xdA xdl xdc,.int .i64 xdln,.int .i64 xvo,.int .i64 xvn,.string xvs,.string xvf,.slice xvA xvl xvc,.int .i64 xvln] 44)).alloc (.cells #[.int .i64 ydo,.int .i64 ydn,.string yds,.string ydf,.slice ydA ydl ydc,.int .i64 ydln,.int .i64 yvo,.int .i64 yvn,.string yvs,.string yvf,.slice yvA yvl yvc,.int .i64 yvln] 44)).heap.size by simp);have bw9:=BC.out.trans (b9.mono BC.out.size);have q9x:ExL ((wc.alloc (.cells #[.int .i64 xdo,.int .i64 xdn,.string xds,.string xdf,.slice xdA xdl xdc,.int .i64 xdln,.int .i64 xvo,.int .i64 xvn,.string xvs,.string xvf,.slice xvA xvl xvc,.int .i64 xvln] 44)).alloc (.cells #[.int .i64 ydo,.int .i64 ydn,.string yds,.string ydf,.slice ydA ydl ydc,.int .i64 ydln,.int .i64 yvo,.int .i64 yvn,.string yvs,.string yvf,.slice yvA yvl yvc,.int .i64 yvln] 44)) ((wc.alloc (.cells #[.int .i64 xdo,.int .i64 xdn,.string xds,.string xdf,.slice xdA xdl xdc,.int .i64 xdln,.int .i64 xvo,.int .i64 xvn,.string xvs,.string xvf,.slice xvA xvl xvc,.int .i64 xvln] 44)).alloc (.cells #[.int .i64 ydo,.int .i64 ydn,.string yds,.string ydf,.slice ydA ydl ydc,.int .i64 ydln,.int .i64 yvo,.int .i64 yvn,.string yvs,.string yvf,.slice yvA yvl yvc,.int .i64 yvln] 44)).heap.size ⟨some ⟨wc.heap.size,0,none⟩,2,2⟩ [D1,V1]:=⟨_,r9x,XDV.out _ bw9⟩;have q9y:ExL ((wc.alloc (.cells #[.int .i64 xdo,.int .i64 xdn,.string xds,.string xdf,.slice xdA xdl xdc,.int .i64 xdln,.int .i64 xvo,.int .i64 xvn,.string xvs,.string xvf,.slice xvA xvl xvc,.int .i64 xvln] 44)).alloc (.cells #[.int .i64 ydo,.int .i64 ydn,.string yds,.string ydf,.slice ydA ydl ydc,.int .i64 ydln,.int .i64 yvo,.int .i64 yvn,.string yvs,.string yvf,.slice yvA yvl yvc,.int .i64 yvln] 44)) ((wc.alloc (.cells #[.int .i64 xdo,.int .i64 xdn,.string xds,.string xdf,.slice xdA xdl xdc,.int .i64 xdln,.int .i64 xvo,.int .i64 xvn,.string xvs,.string xvf,.slice xvA xvl xvc,.int .i64 xvln] 44)).alloc (.cells #[.int .i64 ydo,.int .i64 ydn,.string yds,.string ydf,.slice ydA ydl ydc,.int .i64 ydln,.int .i64 yvo,.int .i64 yvn,.string yvs,.string yvf,.slice yvA yvl yvc,.int .i64 yvln] 44)).heap.size ⟨some ⟨(wc.alloc (.cells #[.int .i64 xdo,.int .i64 xdn,.string xds,.string xdf,.slice xdA xdl xdc,.int .i64 xdln,.int .i64 xvo,.int .i64 xvn,.string xvs,.string xvf,.slice xvA xvl xvc,.int .i64 xvln] 44)).heap.size,0,none⟩,2,2⟩ [D2,V2]:=⟨_,r9y,YDV.out _ bw9⟩;rw [z9] at q9y;have C9:=SC6.out _ _ _ q9x q9y;simp only [Sl.v] at C9;have X8n:=qh (X8.out.below b9 L8.out);have X9n:=qh (X9.out.below b9 L9.out);have L8n:=qh (Nat.lt_of_lt_of_le L8.out b9.size);have L9n:=qh (Nat.lt_of_lt_of_le L9.out b9.size);have BCn:=qh bw9;clear X8 X9 L8 L9 BC b9a b9b b9 z9 r9x r9y bw9 q9x q9y SC6 XDV YDV DST DST2 a2 d2 a3 d3 a4 d4 a5 d5 a6 d6 a7 d7 a8 d8 a9 d9 a10 d10 a11 d11 a12 d12 a13 d13;generalize ((wc.alloc (.cells #[.int .i64 xdo,.int .i64 xdn,.string xds,.string xdf,.slice xdA xdl xdc,.int .i64 xdln,.int .i64 xvo,.int .i64 xvn,.string xvs,.string xvf,.slice xvA xvl xvc,.int .i64 xvln] 44)).alloc (.cells #[.int .i64 ydo,.int .i64 ydn,.string yds,.string ydf,.slice ydA ydl ydc,.int .i64 ydln,.int .i64 yvo,.int .i64 yvn,.string yvs,.string yvf,.slice yvA yvl yvc,.int .i64 yvln] 44))=w9 at *;refine C9.mono ?_;rintro e w10 ⟨rfl,hb⟩;have X8:=qh (X8n.out.below hb L8n.out);have X9:=qh (X9n.out.below hb L9n.out);have L8:=qh (Nat.lt_of_lt_of_le L8n.out hb.size);have L9:=qh (Nat.lt_of_lt_of_le L9n.out hb.size);have BC:=btr BCn hb;clear hb X8n X9n L8n L9n BCn C9;have a14:=(k.cell_of X8.out (i:=14) rfl).1;have d14:=(k.cell_of X9.out (i:=14) rfl).1;cases u6
     ·have HR2:=qh (show R=false by rw [←HS.out];have h6:=H6.out;revert h6;cases exSame D1 D2<;>cases exSame V1 V2<;>simp)
      go_wp2_with fail
      go_ret
      exact ⟨ret_bool HR2.out.symm,HB.out.trans (BC.out.mono HB.out.size)⟩
     have C7:=qh (SC7.out _ BC.out);go_wp2_with (go_at_call 53;fail)
     refine C7.out.mono ?_;rintro e w11 ⟨rfl,hb⟩;have X8n:=qh (X8.out.below hb L8.out);have X9n:=qh (X9.out.below hb L9.out);have L8n:=qh (Nat.lt_of_lt_of_le L8.out hb.size);have L9n:=qh (Nat.lt_of_lt_of_le L9.out hb.size);have BCn:=btr BC hb;clear hb C7 SC7 X8 X9 L8 L9 BC a14 d14;cases u7
     ·have HR2:=qh (show R=false by rw [←HS.out];cases exSame D1 D2<;>cases exSame V1 V2<;>simp)
      go_wp2_with fail
      go_ret
      exact ⟨ret_bool HR2.out.symm,HB.out.trans (BCn.out.mono HB.out.size)⟩
     have HS2:=qh (show ((LB1==LB2)&&(F1==F2&&blksSame K1 K2)&&stsSame (La.drop (q+1)) (Lb.drop (q+1)))=R by rw [←HS.out];have h6:=H6.out;revert h6;cases exSame D1 D2<;>cases exSame V1 V2<;>simp);clear HS H6 N3 N4 N5 Y3 Y4 Y5;obtain ⟨RL,hRL⟩:∃ r,(LB1==LB2)=r:=⟨_,rfl⟩;obtain ⟨RF,hRF⟩:∃ r,(F1==F2)=r:=⟨_,rfl⟩;obtain ⟨RK,hRK⟩:∃ r,blksSame K1 K2=r:=⟨_,rfl⟩;rw [hRL,hRF,hRK] at HS2;have HRL:=qh hRL;have HRF:=qh hRF;have HRK:=qh hRK;clear hRL hRF hRK;go_upto_region 12 with (fail)
     go_loopw [10] (fun s_ wl=>∃ p:Nat,p≤xll∧s_=.int .i64 p∧(LB1.drop p==LB2.drop p)=RL∧Below w11.heap.size w11 wl) (fun i _=>xll-(intOf i).toNat)
     case atStart=>exact ⟨0,Nat.zero_le _,rfl,HRL.out,Below.refl _ _⟩
     case round=>
      obtain ⟨p,hp,rfl,hs,hbl⟩:=hrel;have X8:=qh (X8n.out.below hbl L8n.out);have X9:=qh (X9n.out.below hbl L9n.out);have L8:=qh (Nat.lt_of_lt_of_le L8n.out hbl.size);have L9:=qh (Nat.lt_of_lt_of_le L9n.out hbl.size);have BC:=btr BCn hbl;have HBL:=qh hbl;clear hbl X8n X9n L8n L9n BCn;obtain ⟨wl0,rfl⟩:∃ v:World,v=wr:=⟨_,rfl⟩;by_cases hlt2:p<xll
      ·obtain ⟨xr,xla⟩:=XL.out wl0 BC.out
       obtain ⟨yr,yla⟩:=YL.out wl0 BC.out;have xr:Rd slC 1 wl0 wl0.heap.size xlA xll xlc HL1:=xr;have yr:Rd slC 1 wl0 wl0.heap.size ylA xll ylc HL2:=yr;obtain ⟨lb1,lo1,⟨iA,il,ic⟩,e1,hlb1,hp1,hcc1⟩:=xr.at hlt2;obtain ⟨lb2,lo2,⟨jA,jl,jc⟩,e2,hlb2,hp2,hcc2⟩:=yr.at hlt2;subst e1;subst e2;obtain ⟨li,hi1,hi2⟩:=LabsAt.at xla hp1;obtain ⟨lj,hj1,hj2⟩:=LabsAt.at yla hp2;rw [drop_beq hi1 hj1] at hs;have c1:=hcc1 0 _ rfl;have c2:=hcc2 0 _ rfl;rw [Nat.add_zero,Nat.mul_one] at c1 c2;simp only [Sl.v] at c1 c2;have IC:=fun m=>rints_any li lj _ _ wl0 m hi2 hj2
       simp only [Sl.v] at IC;obtain ⟨u,hu⟩:∃ u,(li==lj)=u:=⟨_,rfl⟩;rw [hu] at IC hs;have IC:=qh IC;have HSS:=qh hs;clear hs hu xr yr xla yla hi1 hi2 hj1 hj2 hcc1 hcc2 hp1 hp2 hlb1 hlb2;have a15:=(k.cell_of X8.out (i:=15) rfl).1;have d15:=(k.cell_of X9.out (i:=15) rfl).1;go_upto_region 14 with (fail)
       go_quiet ((go_at_call 54;with_reducible exact IC.out _))
       rename_i nq;have w1:IntKind.i64.wrap ((p:Int)+1)=((p+1:Nat):Int):=by rw [IntKind.wrap_i64];omega
       cases u
       ·have HR2:=qh (show R=false by rw [←HS2.out,←HSS.out];simp)
        go_wp2_with fail
        go_ret
        exact ⟨ret_bool HR2.out.symm,HB.out.trans ((below_drawn BC.out nq).mono HB.out.size)⟩
       ·have HS3:=qh (show (LB1.drop (p+1)==LB2.drop (p+1))=RL by rw [←HSS.out];simp)
        go_wp2_with fail
        go_roundw
        case rel=>exact ⟨p+1,by omega,by go_num,HS3.out,below_drawn HBL.out nq⟩
        case measure=>simp [intOf];omega
      ·obtain rfl:p=xll:=by omega
       have hz:¬ (p:Int)<p:=by omega
       rw [drop_end LLN.out.1 LLN.out.2.1] at hs;subst hs;have a15:=(k.cell_of X8.out (i:=15) rfl).1;go_upto_region 17 with (fail)
       clear hz a15;have X8n:=qh X8.out;have X9n:=qh X9.out;have L8n:=qh L8.out;have L9n:=qh L9.out;have BCn:=qh BC.out;clear X8 X9 L8 L9 BC HBL;go_loopw [11] (fun s_ wl=>∃ p:Nat,p≤xfl∧s_=.int .i64 p∧(F1.drop p==F2.drop p)=RF∧Below wl0.heap.size wl0 wl) (fun i _=>xfl-(intOf i).toNat)
       case atStart=>exact ⟨0,Nat.zero_le _,rfl,HRF.out,Below.refl _ _⟩
       case round=>
        obtain ⟨p,hp,rfl,hs,hbl⟩:=hrel;have X8:=qh (X8n.out.below hbl L8n.out);have X9:=qh (X9n.out.below hbl L9n.out);have L8:=qh (Nat.lt_of_lt_of_le L8n.out hbl.size);have L9:=qh (Nat.lt_of_lt_of_le L9n.out hbl.size);have BC:=btr BCn hbl;have HBL:=qh hbl;clear hbl X8n X9n L8n L9n BCn;obtain ⟨wl1,rfl⟩:∃ v:World,v=wr:=⟨_,rfl⟩;by_cases hlt2:p<xfl
        ·have xr:Rd tC1 1 wl1 wl1.heap.size xfA xfl xfc F1:=XF.out wl1 BC.out
         have yr:Rd tC1 1 wl1 wl1.heap.size yfA xfl yfc F2:=YF.out wl1 BC.out;obtain ⟨lb1,lo1,si,e1,hlb1,hi1,hcc1⟩:=xr.at hlt2;obtain ⟨lb2,lo2,sj,e2,hlb2,hj1,hcc2⟩:=yr.at hlt2;subst e1;subst e2;rw [drop_beq hi1 hj1] at hs;have c1:=hcc1 0 _ rfl;have c2:=hcc2 0 _ rfl;rw [Nat.add_zero,Nat.mul_one] at c1 c2;simp only [sv] at c1 c2;obtain ⟨ti,hti⟩:∃ z,(⟨si.toArray⟩:ByteArray)=z:=⟨_,rfl⟩;obtain ⟨tj,htj⟩:∃ z,(⟨sj.toArray⟩:ByteArray)=z:=⟨_,rfl⟩;have t3:=st_eq hti htj;rw [hti] at c1;rw [htj] at c2;obtain ⟨u,hu⟩:∃ u,(si==sj)=u:=⟨_,rfl⟩;rw [hu] at t3 hs;have HSS:=qh hs;clear hs hu hti htj xr yr hi1 hj1 hcc1 hcc2 hlb1 hlb2;have a16:=(k.cell_of X8.out (i:=16) rfl).1;have d16:=(k.cell_of X9.out (i:=16) rfl).1;go_upto_region 19 with (fail)
         go_quiet (fail)
         rename_i nq;have w1:IntKind.i64.wrap ((p:Int)+1)=((p+1:Nat):Int):=by rw [IntKind.wrap_i64];omega
         cases u
         ·have HR2:=qh (show R=false by rw [←HS2.out,←HSS.out];simp)
          go_wp2_with fail
          go_ret
          exact ⟨ret_bool HR2.out.symm,HB.out.trans ((below_drawn BC.out nq).mono HB.out.size)⟩
         ·have HS3:=qh (show (F1.drop (p+1)==F2.drop (p+1))=RF by rw [←HSS.out];simp)
          go_wp2_with fail
          go_roundw
          case rel=>exact ⟨p+1,by omega,by go_num,HS3.out,below_drawn HBL.out nq⟩
          case measure=>simp [intOf];omega
        ·obtain rfl:p=xfl:=by omega
         have hz:¬ (p:Int)<p:=by omega
         rw [drop_end LLN.out.2.2.1 LLN.out.2.2.2.1] at hs;subst hs;have a16:=(k.cell_of X8.out (i:=16) rfl).1;go_upto_region 22 with (fail)
         clear hz a16;have X8n:=qh X8.out;have X9n:=qh X9.out;have L8n:=qh L8.out;have L9n:=qh L9.out;have BCn:=qh BC.out;clear X8 X9 L8 L9 BC HBL;go_loopw [12] (fun s_ wl=>∃ p:Nat,p≤xbl∧s_=.int .i64 p∧blksSame (K1.drop p) (K2.drop p)=RK∧Below wl1.heap.size wl1 wl) (fun i _=>xbl-(intOf i).toNat)
         case atStart=>exact ⟨0,Nat.zero_le _,rfl,HRK.out,Below.refl _ _⟩
         case round=>
          obtain ⟨p,hp,rfl,hs,hbl⟩:=hrel;have X8:=qh (X8n.out.below hbl L8n.out);have X9:=qh (X9n.out.below hbl L9n.out);have L8:=qh (Nat.lt_of_lt_of_le L8n.out hbl.size);have L9:=qh (Nat.lt_of_lt_of_le L9n.out hbl.size);have BC:=btr BCn hbl;have HBL:=qh hbl;clear hbl X8n X9n L8n L9n BCn;obtain ⟨wl2,rfl⟩:∃ v:World,v=wr:=⟨_,rfl⟩;by_cases hlt2:p<xbl
          ·obtain ⟨xr,xla⟩:=XK.out wl2 BC.out
           obtain ⟨yr,yla⟩:=YK.out wl2 BC.out;have xr:Rd slC 1 wl2 wl2.heap.size xbA xbl xbc HK1:=xr;have yr:Rd slC 1 wl2 wl2.heap.size ybA xbl ybc HK2:=yr;obtain ⟨lb1,lo1,⟨iA,il,ic⟩,e1,hlb1,hp1,hcc1⟩:=xr.at hlt2;obtain ⟨lb2,lo2,⟨jA,jl,jc⟩,e2,hlb2,hp2,hcc2⟩:=yr.at hlt2;subst e1;subst e2;obtain ⟨li,hi1,hi2⟩:=BlksAt.at xla hp1;obtain ⟨lj,hj1,hj2⟩:=BlksAt.at yla hp2;rw [blksSame_at hi1 hj1] at hs;have hsz:=blksSize_at hi1;have c1:=hcc1 0 _ rfl;have c2:=hcc2 0 _ rfl;rw [Nat.add_zero,Nat.mul_one] at c1 c2;simp only [Sl.v] at c1 c2;have IC:=fun W (h:Below wl2.heap.size wl2 W)=>IH.out li lj (by have:=HSZ.out;omega) ⟨iA,il,ic⟩ ⟨jA,jl,jc⟩ W (StL.below hi2 h h.size) (StL.below hj2 h h.size)
           simp only [Sl.v] at IC;obtain ⟨u,hu⟩:∃ u,stsSame li lj=u:=⟨_,rfl⟩;rw [hu] at IC hs;have IC:=qh IC;have HSS:=qh hs;clear hs hu hsz xr yr xla yla hi1 hi2 hj1 hj2 hcc1 hcc2 hp1 hp2;have a17:=(k.cell_of X8.out (i:=17) rfl).1;have d17:=(k.cell_of X9.out (i:=17) rfl).1;have l8:=L8.out;have l9:=L9.out;go_upto_region 24 with (fail)
           refine wp_region_T (by kernel_rfl) (fun w'=>Below wl2.heap.size wl2 w') [] (Below.refl _ _).drew (fun hHeld=>?_);refine tkr (i:=0) rfl ?_;try simp only [Act.put,List.setIfInBounds_toArray,List.set_cons_zero,List.set_cons_succ,List.getElem_toArray,List.getElem_cons_zero]
           refine tkq (i:=1) (v:=?_) rfl ?_ ?_;rotate_left 1
           ·intro w hSw;have s_:=(hSw.cell (p:=⟨g8,17,none⟩) l8).trans a17;clear hSw;go_simp<;>(with_reducible rfl)
           try simp only [lq0,lq7,lq1,lq2,lq3,lq4,lq5,lq6]
           refine tkr (i:=2) rfl ?_;try simp only [lq0,lq7,lq1,lq2,lq3,lq4,lq5,lq6]
           refine tkr (i:=3) rfl ?_;try simp only [lq0,lq7,lq1,lq2,lq3,lq4,lq5,lq6]
           refine tkq (i:=4) (v:=?_) rfl ?_ ?_;rotate_left 1
           ·intro w hSw;have s_:=(hSw.cell (p:=⟨lb1,lo1+p,none⟩) hlb1).trans c1;clear hSw;go_simp<;>(with_reducible rfl)
           try simp only [lq0,lq7,lq1,lq2,lq3,lq4,lq5,lq6]
           refine tkr (i:=5) rfl ?_;try simp only [lq0,lq7,lq1,lq2,lq3,lq4,lq5,lq6]
           refine tkq (i:=6) (v:=?_) rfl ?_ ?_;rotate_left 1
           ·intro w hSw;have s_:=(hSw.cell (p:=⟨g9,17,none⟩) l9).trans d17;clear hSw;go_simp<;>(with_reducible rfl)
           try simp only [lq0,lq7,lq1,lq2,lq3,lq4,lq5,lq6]
           refine tkr (i:=7) rfl ?_;try simp only [lq0,lq7,lq1,lq2,lq3,lq4,lq5,lq6]
           refine tkr (i:=8) rfl ?_;try simp only [lq0,lq7,lq1,lq2,lq3,lq4,lq5,lq6]
           refine tkq (i:=9) (v:=?_) rfl ?_ ?_;rotate_left 1
           ·intro w hSw;have s_:=(hSw.cell (p:=⟨lb2,lo2+p,none⟩) hlb2).trans c2;clear hSw;go_simp<;>(with_reducible rfl)
           try simp only [lq0,lq7,lq1,lq2,lq3,lq4,lq5,lq6]
           refine tkr (i:=10) rfl ?_;try simp only [lq0,lq7,lq1,lq2,lq3,lq4,lq5,lq6]
           refine wpAnyT_ready (rs:=[11]) (by kernel_rfl) (by simp) ?_;refine AllReadyT.cons rfl (fun K hK=>?_) AllReadyT.nil;go_simp
           (go_at_call 30;(refine (IC.out _ hHeld).mono ?_);rintro e w5 ⟨rfl,hb⟩)
           have hT:=hHeld.trans (hb.mono hHeld.size);clear hb hHeld;go_wp2_with fail
           refine hK.out _ _ hT (fun hHeld=>?_);clear hK K hT;try simp only [lq0,lq7,lq1,lq2,lq3,lq4,lq5,lq6]
           refine tkr (i:=12) rfl ?_;try simp only [lq0,lq7,lq1,lq2,lq3,lq4,lq5,lq6]
           refine wpAnyT_done (by kernel_rfl) ?_ _;have B5:=qh hHeld;clear hHeld IC;have w1:IntKind.i64.wrap ((p:Int)+1)=((p+1:Nat):Int):=by rw [IntKind.wrap_i64];omega
           cases u
           ·have HR2:=qh (show R=false by rw [←HS2.out,←HSS.out];simp)
            go_wp2_with fail
            go_ret
            exact ⟨ret_bool HR2.out.symm,HB.out.trans ((BC.out.trans (B5.out.mono BC.out.size)).mono HB.out.size)⟩
           ·have HS3:=qh (show blksSame (K1.drop (p+1)) (K2.drop (p+1))=RK by rw [←HSS.out];simp)
            go_wp2_with fail
            go_roundw
            case rel=>exact ⟨p+1,by omega,by go_num,HS3.out,HBL.out.trans (B5.out.mono HBL.out.size)⟩
            case measure=>simp [intOf];omega
          ·obtain rfl:p=xbl:=by omega
           have hz:¬ (p:Int)<p:=by omega
           rw [List.drop_of_length_le (by rw [LLN.out.2.2.2.2.1];exact Nat.le_refl _),List.drop_of_length_le (by rw [LLN.out.2.2.2.2.2];exact Nat.le_refl _)] at hs;have hs:true=RK:=by rw [←hs];simp [blksSame]
           subst hs;have a17:=(k.cell_of X8.out (i:=17) rfl).1;have w1:IntKind.i64.wrap ((q:Int)+1)=((q+1:Nat):Int):=by rw [IntKind.wrap_i64];omega
           have HS3:=qh (show stsSame (La.drop (q+1)) (Lb.drop (q+1))=R by rw [←HS2.out];simp);go_wp2_with fail
           go_roundw
           case rel=>exact ⟨q+1,by omega,by go_num,(R1.out.below BC.out).more BC.out.size,(R2.out.below BC.out).more BC.out.size,StsAt.below BC.out BC.out.size E1.out,StsAt.below BC.out BC.out.size E2.out,HB.out.trans (BC.out.mono HB.out.size),HS3.out⟩
           case measure=>simp [intOf];omega
   ·obtain rfl:q=n:=by omega
    have hz:¬ (q:Int)<q:=by omega
    rw [List.drop_of_length_le (by rw [LA.out];exact Nat.le_refl _),List.drop_of_length_le (by rw [LB.out];exact Nat.le_refl _)] at hs;have HS:=qh hs;have HB:=qh hb;clear hs hb hr1 hr2 he1 he2;go_wp2_with fail
    go_ret
    exact ⟨ret_bool (by rw [←HS.out];simp [stsSame]),HB.out⟩
theorem rstmts_any (N:Nat):∀ (La Lb:List St),stsSize La<N→∀ (sa sb:Sl) (w:World),StL w w.heap.size sa La→StL w w.heap.size sb Lb →
  Calls Tryz.prog 30 #[sa.v,sb.v,.bool false] w fun e w'=>e=.returned (.bool (stsSame La Lb))∧Below w.heap.size w w':=by
 induction N with
 | zero=>intro _ _ h;omega
 | succ N ih=>exact fun La Lb h=>rstmts_step N ih La Lb h
end tr
end Go.Proofs.YtdefgghhkknnpaaGreatDoor

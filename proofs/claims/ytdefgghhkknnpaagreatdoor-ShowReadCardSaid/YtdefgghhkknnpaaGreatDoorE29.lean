/- The reference's comparison of two rows of expressions, but for lines: it tells whether they are the same; what was in memory is as it was. No condition. -/
import Derived.Test.YtdefgghhkknnpaaGreatDoorE05
set_option linter.unusedVariables false
set_option linter.unusedSimpArgs false
set_option maxRecDepth 100000
set_option maxHeartbeats 40000000
namespace Go.Proofs.YtdefgghhkknnpaaGreatDoor
namespace tr
open ChangeShapes WideShapes ChangeAt RowKit k rr tk
mutual
def exSize:Ex→Nat
 | .mk _ _ _ _ sub _=>exsSize sub+1
def exsSize:List Ex→Nat
 | []=>0
 | x::L=>exSize x+exsSize L
end
theorem exsSize_at:∀ {L:List Ex} {i:Nat} {op n:Int} {nm fd:Str} {sub:List Ex} {ln:Int},L[i]?=some (.mk op n nm fd sub ln)→exsSize sub<exsSize L
 | [],i,_,_,_,_,_,_,h=>by simp at h
 | x::L,0,_,_,_,_,_,_,h=>by
  obtain rfl:x=_:=by simpa using h
  rw [exsSize,exSize];omega
 | x::L,i+1,_,_,_,_,_,_,h=>by
  have:=exsSize_at (L:=L) (i:=i) (by simpa using h);rw [exsSize];omega
theorem exsSame_len:∀ {L M:List Ex},L.length≠M.length→exsSame L M=false
 | [],[],h=>absurd rfl h
 | [],_::_,_=>rfl
 | _::_,[],_=>rfl
 | x::L,y::M,h=>by rw [exsSame,exsSame_len (by simpa using h)];simp
theorem exsSame_at {L M:List Ex} {i:Nat} {x y:Ex} (h1:L[i]?=some x) (h2:M[i]?=some y):exsSame (L.drop i) (M.drop i)=(exSame x y&&exsSame (L.drop (i+1)) (M.drop (i+1))):=by
 obtain ⟨a1,a2⟩:=List.getElem?_eq_some_iff.1 h1;obtain ⟨b1,b2⟩:=List.getElem?_eq_some_iff.1 h2;rw [List.drop_eq_getElem_cons a1,List.drop_eq_getElem_cons b1,exsSame,a2,b2]
theorem st_eq {s t:Str} {S T:ByteArray} (hS:(⟨s.toArray⟩:ByteArray)=S) (hT:(⟨t.toArray⟩:ByteArray)=T):(S.toList==T.toList)=(s==t):=by
 rw [←hS,←hT,ByteArray.toList_eq,ByteArray.toList_eq]
theorem exC_ones (o n:Int) (s f:ByteArray) (A:Option Addr) (l c:Nat) (ln:Int):∀ v∈[Value.int .i64 o,.int .i64 n,.string s,.string f,.slice A l c,.int .i64 ln],v.oneCell'=true:=by
 intro v hv;simp only [List.mem_cons,List.not_mem_nil,or_false] at hv;rcases hv with rfl|rfl|rfl|rfl|rfl|rfl<;>rfl
theorem sbox_drew {w:World} {g:Nat}:∀ {vs:List Value} {o:Nat},Box w g o vs→Box w.drew g o vs
 | [],_,_=>trivial
 | v::vs,o,h=>⟨h.1,h.2.1,sbox_drew h.2.2⟩
theorem rexprs_any:∀ (N:Nat) (La Lb:List Ex),exsSize La<N→∀ (sa sb:Sl) (w:World),ExL w w.heap.size sa La→ExL w w.heap.size sb Lb →
  Calls Tryz.prog 53 #[sa.v,sb.v,.bool false] w fun e w'=>e=.returned (.bool (exsSame La Lb))∧Below w.heap.size w w'
 | 0,_,_,h=>absurd h (by omega)
 | N+1,La,Lb,hN=>by
  rintro ⟨A,n,cap⟩ ⟨A',n',cap'⟩ w ⟨H,h1,h2⟩ ⟨H',h3,h4⟩;have IH:=qh fun La Lb (h:exsSize La<N) sa sb W ha hb=>rexprs_any N La Lb h sa sb W ha hb
  have l1:=h2.len;have l2:=h4.len;have h1:Rd eC 6 w w.heap.size A n cap H:=h1;have h3:Rd eC 6 w w.heap.size A' n' cap' H':=h3;have e1:=h1.1;have e2:=h3.1;have hnl:=h1.len_le;have hnl':=h3.len_le;simp only [Sl.v];by_cases hlen:n=n'
  rotate_left
  ·have hz:((n:Int) != n')=true:=by rw [bne_iff_ne];omega
   have HR:=qh (exsSame_len (L:=La) (M:=Lb) (by omega));clear h1 h2 h3 h4 IH;go_enter Tryz.func53,Tryz.ntmps53
   go_wp2;go_ret
   exact ⟨ret_bool HR.out.symm,Below.refl _ _⟩
  subst hlen;have R1:=qh h1;have R2:=qh h3;have E1:=qh h2;have E2:=qh h4;have LA:=qh (show La.length=n by omega);have LB:=qh (show Lb.length=n by omega);have HN:=qh hN;obtain ⟨R,hR⟩:∃ R,exsSame La Lb=R:=⟨_,rfl⟩;have HR:=qh hR;rw [hR];clear h1 h2 h3 h4 l1 l2 e1 e2 hN hR;go_enter Tryz.func53,Tryz.ntmps53
  go_upto_region 4 with (fail)
  go_loopw [7] (fun s7 wr=>∃ q:Nat,q≤n∧s7=.int .i64 q∧Rd eC 6 wr wr.heap.size A n cap H∧Rd eC 6 wr wr.heap.size A' n cap' H'∧ExsAt wr wr.heap.size La H∧ExsAt wr wr.heap.size Lb H'∧Below w.heap.size w wr∧exsSame (La.drop q) (Lb.drop q)=R) (fun i _=>n-(intOf i).toNat)
  case atStart=>exact ⟨0,Nat.zero_le _,rfl,R1.out,R2.out,E1.out,E2.out,Below.refl _ _,HR.out⟩
  case round=>
   obtain ⟨q,hq,rfl,hr1,hr2,he1,he2,hb,hs⟩:=hrel;clear R1 R2 E1 E2;by_cases hlt:q<n
   ·obtain ⟨b1,o1,hx,rfl,hb1,hp,hc1⟩:=hr1.at hlt
    obtain ⟨b2,o2,hy,rfl,hb2,hp',hc2⟩:=hr2.at hlt;obtain ⟨x,hx1,hx2⟩:=ExsAt.at he1 hp;obtain ⟨y,hy1,hy2⟩:=ExsAt.at he2 hp';rw [exsSame_at hx1 hy1] at hs;have R1:=qh hr1;have R2:=qh hr2;have E1:=qh he1;have E2:=qh he2;have HB:=qh hb;clear hr1 hr2 he1 he2 hb hp hp';obtain ⟨xo',xn',xnm,xfd,xsub,xln'⟩:=x;obtain ⟨yo',yn',ynm,yfd,ysub,yln'⟩:=y;have hsz:=exsSize_at hx1;obtain ⟨xo,xn,xs',xf',⟨xA,xl,xc⟩,xln⟩:=hx;obtain ⟨yo,yn,ys',yf',⟨yA,yl,yc⟩,yln⟩:=hy;unfold ExAt at hx2 hy2;obtain ⟨rfl,rfl,rfl,rfl,rfl,K1,k1,k2⟩:=hx2;obtain ⟨rfl,rfl,rfl,rfl,rfl,K2,k3,k4⟩:=hy2;simp only [eC,sv,Sl.v] at hc1 hc2;rw [exSame] at hs;obtain ⟨xs,hxs⟩:∃ xs,(⟨xs'.toArray⟩:ByteArray)=xs:=⟨_,rfl⟩;obtain ⟨ys,hys⟩:∃ ys,(⟨ys'.toArray⟩:ByteArray)=ys:=⟨_,rfl⟩;obtain ⟨xf,hxf⟩:∃ xf,(⟨xf'.toArray⟩:ByteArray)=xf:=⟨_,rfl⟩;obtain ⟨yf,hyf⟩:∃ yf,(⟨yf'.toArray⟩:ByteArray)=yf:=⟨_,rfl⟩;have t3:=st_eq hxs hys;have t4:=st_eq hxf hyf;rw [hxs,hxf] at hc1;rw [hys,hyf] at hc2;obtain ⟨u1,hu1⟩:∃ u,(xo==yo)=u:=⟨_,rfl⟩;obtain ⟨u2,hu2⟩:∃ u,(xn==yn)=u:=⟨_,rfl⟩;obtain ⟨u3,hu3⟩:∃ u,(xs'==ys')=u:=⟨_,rfl⟩;obtain ⟨u4,hu4⟩:∃ u,(xf'==yf')=u:=⟨_,rfl⟩;obtain ⟨u5,hu5⟩:∃ u,exsSame xsub ysub=u:=⟨_,rfl⟩;rw [hu1,hu2,hu3,hu4,hu5] at hs;rw [hu3] at t3;rw [hu4] at t4;have v1:(xo != yo)=!u1:=by rw [bne,hu1]
    have v2:(xn != yn)=!u2:=by rw [bne,hu2]
    have HS:=qh hs;have XS:=qh (show ∀ W,Below wr.heap.size wr W→ExL W W.heap.size ⟨xA,xl,xc⟩ xsub from fun W h=>ExL.below ⟨K1,k1,k2⟩ h h.size);have YS:=qh (show ∀ W,Below wr.heap.size wr W→ExL W W.heap.size ⟨yA,yl,yc⟩ ysub from fun W h=>ExL.below ⟨K2,k3,k4⟩ h h.size);have SC:=qh (show ∀ W,Below wr.heap.size wr W→Calls Tryz.prog 53 #[.slice xA xl xc,.slice yA yl yc,.bool false] W fun e w'=>e=.returned (.bool u5)∧Below W.heap.size W w' from fun W h=>hu5 ▸ IH.out xsub ysub (by have:=HN.out;omega) ⟨xA,xl,xc⟩ ⟨yA,yl,yc⟩ W (XS.out W h) (YS.out W h));clear hx1 hy1 hs hsz k1 k2 k3 k4 hxs hys hxf hyf hu1 hu2 hu3 hu4 hu5;go_upto_region 6 with (fail)
    go_cut [8,9] from 21 to 28 (fun p q wx=>∃ g8 g9:Nat,p=.pointer (some ⟨g8,0,none⟩)∧q=.pointer (some ⟨g9,0,none⟩)∧Box wx g8 0 [.int .i64 xo,.int .i64 xn,.string xs,.string xf,.slice xA xl xc,.int .i64 xln]∧Box wx g9 0 [.int .i64 yo,.int .i64 yn,.string ys,.string yf,.slice yA yl yc,.int .i64 yln]∧g8≠g9∧wr.heap.size≤g8∧wr.heap.size≤g9∧g8<wx.heap.size∧g9<wx.heap.size∧Below wr.heap.size wr wx)
    case first=>
     refine wp_region_T (by kernel_rfl) (fun w'=>Below wr.heap.size wr w') [] (Below.refl _ _).drew (fun hHeld=>?_);refine tkr (i:=0) rfl ?_;try simp only [Act.put,List.setIfInBounds_toArray,List.set_cons_zero,List.set_cons_succ,List.getElem_toArray,List.getElem_cons_zero]
     refine tkr (i:=1) rfl ?_;try simp only [lq0,lq7,lq1,lq2,lq3,lq4,lq5,lq6]
     refine tkr (i:=2) rfl ?_;try simp only [lq0,lq7,lq1,lq2,lq3,lq4,lq5,lq6]
     refine wpAnyT_take (i:=3) rfl (by kernel_rfl) (by kernel_rfl) (by kernel_rfl) (fun _ _ _ h=>h) (yieldsIf_load_mid (by rfl) 44 (.tmp 23) rfl b1 (o1+q*6) rfl [.int .i64 xo,.int .i64 xn,.string xs,.string xf,.slice xA xl xc,.int .i64 xln] _ (fun _ hb'=>range_below hc1 hb' hb1) rfl rfl (by kernel_rfl)) (by assumption) ?_;try simp only [lq0,lq7,lq1,lq2,lq3,lq4,lq5,lq6]
     refine tkr (i:=4) rfl ?_;try simp only [lq0,lq7,lq1,lq2,lq3,lq4,lq5,lq6]
     refine tkr (i:=5) rfl ?_;try simp only [lq0,lq7,lq1,lq2,lq3,lq4,lq5,lq6]
     refine tkr (i:=6) rfl ?_;try simp only [lq0,lq7,lq1,lq2,lq3,lq4,lq5,lq6]
     refine wpAnyT_take (i:=7) rfl (by kernel_rfl) (by kernel_rfl) (by kernel_rfl) (fun _ _ _ h=>h) (yieldsIf_load_mid (by rfl) 44 (.tmp 27) rfl b2 (o2+q*6) rfl [.int .i64 yo,.int .i64 yn,.string ys,.string yf,.slice yA yl yc,.int .i64 yln] _ (fun _ hb'=>range_below hc2 hb' hb2) rfl rfl (by kernel_rfl)) (by assumption) ?_;try simp only [lq0,lq7,lq1,lq2,lq3,lq4,lq5,lq6]
     refine wpAnyT_ready (rs:=[8,9]) (by kernel_rfl) (by simp) ?_;refine AllReadyT.cons rfl (fun K hK=>?_) (AllReadyT.cons rfl (fun K hK=>?_) AllReadyT.nil)
     ·go_simp
      have hA:Below wr.heap.size wr (wr.alloc (.cells #[.int .i64 0,.int .i64 0,.string ⟨#[]⟩,.string ⟨#[]⟩,.slice none 0 0,.int .i64 0] 44)).drew:=((Below.refl _ _).alloc (Nat.le_refl _) _).drew;refine hK.out _ _ hA (fun hHeld=>?_);clear hK K hA;try simp only [lq0,lq7,lq1,lq2,lq3,lq4,lq5,lq6]
      refine wpAnyT_ready (rs:=[9]) (by kernel_rfl) (by simp) ?_;refine AllReadyT.cons rfl (fun K hK=>?_) AllReadyT.nil;go_simp;obtain ⟨x1,x2,hb,hz⟩:=boxes2 (Below.refl ((wr.alloc (.cells #[.int .i64 0,.int .i64 0,.string ⟨#[]⟩,.string ⟨#[]⟩,.slice none 0 0,.int .i64 0] 44)).alloc (.cells #[.int .i64 0,.int .i64 0,.string ⟨#[]⟩,.string ⟨#[]⟩,.slice none 0 0,.int .i64 0] 44)).heap.size ((wr.alloc (.cells #[.int .i64 0,.int .i64 0,.string ⟨#[]⟩,.string ⟨#[]⟩,.slice none 0 0,.int .i64 0] 44)).alloc (.cells #[.int .i64 0,.int .i64 0,.string ⟨#[]⟩,.string ⟨#[]⟩,.slice none 0 0,.int .i64 0] 44)));have hB:Below wr.heap.size wr ((wr.alloc (.cells #[.int .i64 0,.int .i64 0,.string ⟨#[]⟩,.string ⟨#[]⟩,.slice none 0 0,.int .i64 0] 44)).alloc (.cells #[.int .i64 0,.int .i64 0,.string ⟨#[]⟩,.string ⟨#[]⟩,.slice none 0 0,.int .i64 0] 44)).drew:=hb.drew;have y1:=sbox_drew x1;have y2:=sbox_drew x2;have z2:wr.heap.size+1<((wr.alloc (.cells #[.int .i64 0,.int .i64 0,.string ⟨#[]⟩,.string ⟨#[]⟩,.slice none 0 0,.int .i64 0] 44)).alloc (.cells #[.int .i64 0,.int .i64 0,.string ⟨#[]⟩,.string ⟨#[]⟩,.slice none 0 0,.int .i64 0] 44)).drew.heap.size:=hz;clear x1 x2 hb hz;generalize ((wr.alloc (.cells #[.int .i64 0,.int .i64 0,.string ⟨#[]⟩,.string ⟨#[]⟩,.slice none 0 0,.int .i64 0] 44)).alloc (.cells #[.int .i64 0,.int .i64 0,.string ⟨#[]⟩,.string ⟨#[]⟩,.slice none 0 0,.int .i64 0] 44)).drew=w2 at *;have X1:=qh y1;have X2:=qh y2;clear y1 y2;refine hK.out _ _ hB (fun hHeld=>?_);clear hK K hHeld;try simp only [lq0,lq7,lq1,lq2,lq3,lq4,lq5,lq6]
      refine wpAnyT_ready (rs:=[10]) (by kernel_rfl) (by simp) ?_;refine AllReadyT.cons rfl (fun K hK=>?_) AllReadyT.nil;obtain ⟨w3,hW,x,hz,hb,_⟩:=k.stored (us:=[.int .i64 xo,.int .i64 xn,.string xs,.string xf,.slice xA xl xc,.int .i64 xln]) X1.out rfl;have y:=aside_stored hW (by omega:wr.heap.size≠(wr.heap.size+1)) X2.out;refine wp_store_mid 44 (.tmp 8) (.tmp 24) rfl wr.heap.size 0 ([.int .i64 xo,.int .i64 xn,.string xs,.string xf,.slice xA xl xc,.int .i64 xln]).toArray rfl rfl (there_of X1.out rfl) (by kernel_rfl) (all_oneCell_toArray (exC_ones _ _ _ _ _ _ _ _)) ?_;have hBn:=hB.trans (hb wr.heap.size (by omega));have z2n:wr.heap.size+1<w3.heap.size:=by rw [hz];exact z2
      simp only [hW];have X1n:=qh x;have X2n:=qh y;clear hb hz hW x y hB z2 X1 X2;have hB:=hBn;have z2:=z2n;have X1:=qh X1n.out;have X2:=qh X2n.out;clear hBn z2n X1n X2n;refine hK.out _ _ hB (fun hHeld=>?_);clear hK K hHeld;try simp only [Act.put,List.getElem_toArray,List.getElem_cons_succ,List.getElem_cons_zero]
      refine wpAnyT_ready (rs:=[11]) (by kernel_rfl) (by simp) ?_;refine AllReadyT.cons rfl (fun K hK=>?_) AllReadyT.nil;obtain ⟨w4,hW,x,hz,hb,_⟩:=k.stored (us:=[.int .i64 yo,.int .i64 yn,.string ys,.string yf,.slice yA yl yc,.int .i64 yln]) X2.out rfl;have y:=aside_stored hW (by omega:(wr.heap.size+1)≠wr.heap.size) X1.out;refine wp_store_mid 44 (.tmp 9) (.tmp 28) rfl (wr.heap.size+1) 0 ([.int .i64 yo,.int .i64 yn,.string ys,.string yf,.slice yA yl yc,.int .i64 yln]).toArray rfl rfl (there_of X2.out rfl) (by kernel_rfl) (all_oneCell_toArray (exC_ones _ _ _ _ _ _ _ _)) ?_;have hBn:=hB.trans (hb wr.heap.size (by omega));have z2n:wr.heap.size+1<w4.heap.size:=by rw [hz];exact z2
      simp only [hW];have X2n:=qh x;have X1n:=qh y;clear hb hz hW x y hB z2 X1 X2;have hB:=hBn;have z2:=z2n;have X1:=qh X1n.out;have X2:=qh X2n.out;clear hBn z2n X1n X2n;refine hK.out _ _ hB (fun hHeld=>?_);clear hK K hHeld;try simp only [Act.put,List.getElem_toArray,List.getElem_cons_succ,List.getElem_cons_zero]
      refine wpAnyT_done (by kernel_rfl) ?_ _;go_wp2_with fail
      go_meet
      case rel=>exact ⟨wr.heap.size,(wr.heap.size+1),rfl,rfl,X1.out,X2.out,by omega,by omega,by omega,by omega,by omega,hB⟩
     ·go_simp
      have hA:Below wr.heap.size wr (wr.alloc (.cells #[.int .i64 0,.int .i64 0,.string ⟨#[]⟩,.string ⟨#[]⟩,.slice none 0 0,.int .i64 0] 44)).drew:=((Below.refl _ _).alloc (Nat.le_refl _) _).drew;refine hK.out _ _ hA (fun hHeld=>?_);clear hK K hA;try simp only [lq0,lq7,lq1,lq2,lq3,lq4,lq5,lq6]
      refine wpAnyT_ready (rs:=[8]) (by kernel_rfl) (by simp) ?_;refine AllReadyT.cons rfl (fun K hK=>?_) AllReadyT.nil;go_simp;obtain ⟨x1,x2,hb,hz⟩:=boxes2 (Below.refl ((wr.alloc (.cells #[.int .i64 0,.int .i64 0,.string ⟨#[]⟩,.string ⟨#[]⟩,.slice none 0 0,.int .i64 0] 44)).alloc (.cells #[.int .i64 0,.int .i64 0,.string ⟨#[]⟩,.string ⟨#[]⟩,.slice none 0 0,.int .i64 0] 44)).heap.size ((wr.alloc (.cells #[.int .i64 0,.int .i64 0,.string ⟨#[]⟩,.string ⟨#[]⟩,.slice none 0 0,.int .i64 0] 44)).alloc (.cells #[.int .i64 0,.int .i64 0,.string ⟨#[]⟩,.string ⟨#[]⟩,.slice none 0 0,.int .i64 0] 44)));have hB:Below wr.heap.size wr ((wr.alloc (.cells #[.int .i64 0,.int .i64 0,.string ⟨#[]⟩,.string ⟨#[]⟩,.slice none 0 0,.int .i64 0] 44)).alloc (.cells #[.int .i64 0,.int .i64 0,.string ⟨#[]⟩,.string ⟨#[]⟩,.slice none 0 0,.int .i64 0] 44)).drew:=hb.drew;have y1:=sbox_drew x1;have y2:=sbox_drew x2;have z2:wr.heap.size+1<((wr.alloc (.cells #[.int .i64 0,.int .i64 0,.string ⟨#[]⟩,.string ⟨#[]⟩,.slice none 0 0,.int .i64 0] 44)).alloc (.cells #[.int .i64 0,.int .i64 0,.string ⟨#[]⟩,.string ⟨#[]⟩,.slice none 0 0,.int .i64 0] 44)).drew.heap.size:=hz;clear x1 x2 hb hz;generalize ((wr.alloc (.cells #[.int .i64 0,.int .i64 0,.string ⟨#[]⟩,.string ⟨#[]⟩,.slice none 0 0,.int .i64 0] 44)).alloc (.cells #[.int .i64 0,.int .i64 0,.string ⟨#[]⟩,.string ⟨#[]⟩,.slice none 0 0,.int .i64 0] 44)).drew=w2 at *;have X1:=qh y1;have X2:=qh y2;clear y1 y2;refine hK.out _ _ hB (fun hHeld=>?_);clear hK K hHeld;try simp only [lq0,lq7,lq1,lq2,lq3,lq4,lq5,lq6]
      refine wpAnyT_ready (rs:=[10]) (by kernel_rfl) (by simp) ?_;refine AllReadyT.cons rfl (fun K hK=>?_) AllReadyT.nil;obtain ⟨w3,hW,x,hz,hb,_⟩:=k.stored (us:=[.int .i64 xo,.int .i64 xn,.string xs,.string xf,.slice xA xl xc,.int .i64 xln]) X2.out rfl;have y:=aside_stored hW (by omega:(wr.heap.size+1)≠wr.heap.size) X1.out;refine wp_store_mid 44 (.tmp 8) (.tmp 24) rfl (wr.heap.size+1) 0 ([.int .i64 xo,.int .i64 xn,.string xs,.string xf,.slice xA xl xc,.int .i64 xln]).toArray rfl rfl (there_of X2.out rfl) (by kernel_rfl) (all_oneCell_toArray (exC_ones _ _ _ _ _ _ _ _)) ?_;have hBn:=hB.trans (hb wr.heap.size (by omega));have z2n:wr.heap.size+1<w3.heap.size:=by rw [hz];exact z2
      simp only [hW];have X2n:=qh x;have X1n:=qh y;clear hb hz hW x y hB z2 X1 X2;have hB:=hBn;have z2:=z2n;have X1:=qh X1n.out;have X2:=qh X2n.out;clear hBn z2n X1n X2n;refine hK.out _ _ hB (fun hHeld=>?_);clear hK K hHeld;try simp only [Act.put,List.getElem_toArray,List.getElem_cons_succ,List.getElem_cons_zero]
      refine wpAnyT_ready (rs:=[11]) (by kernel_rfl) (by simp) ?_;refine AllReadyT.cons rfl (fun K hK=>?_) AllReadyT.nil;obtain ⟨w4,hW,x,hz,hb,_⟩:=k.stored (us:=[.int .i64 yo,.int .i64 yn,.string ys,.string yf,.slice yA yl yc,.int .i64 yln]) X1.out rfl;have y:=aside_stored hW (by omega:wr.heap.size≠(wr.heap.size+1)) X2.out;refine wp_store_mid 44 (.tmp 9) (.tmp 28) rfl wr.heap.size 0 ([.int .i64 yo,.int .i64 yn,.string ys,.string yf,.slice yA yl yc,.int .i64 yln]).toArray rfl rfl (there_of X1.out rfl) (by kernel_rfl) (all_oneCell_toArray (exC_ones _ _ _ _ _ _ _ _)) ?_;have hBn:=hB.trans (hb wr.heap.size (by omega));have z2n:wr.heap.size+1<w4.heap.size:=by rw [hz];exact z2
      simp only [hW];have X1n:=qh x;have X2n:=qh y;clear hb hz hW x y hB z2 X1 X2;have hB:=hBn;have z2:=z2n;have X1:=qh X1n.out;have X2:=qh X2n.out;clear hBn z2n X1n X2n;refine hK.out _ _ hB (fun hHeld=>?_);clear hK K hHeld;try simp only [Act.put,List.getElem_toArray,List.getElem_cons_succ,List.getElem_cons_zero]
      refine wpAnyT_done (by kernel_rfl) ?_ _;go_wp2_with fail
      go_meet
      case rel=>exact ⟨(wr.heap.size+1),wr.heap.size,rfl,rfl,X2.out,X1.out,by omega,by omega,by omega,by omega,by omega,hB⟩
    case rest=>
     obtain ⟨g8,g9,rfl,rfl,hx8,hx9,hne,_,_,hl8,hl9,hBc⟩:=hcut;have SC2:=qh (SC.out wc hBc);have BC:=qh hBc;clear hBc SC XS YS IH;have ⟨a0,_,a1,_,a2,_,a3,_,a4,_,a5,_,_⟩:=hx8;have ⟨d0,_,d1,_,d2,_,d3,_,d4,_,d5,_,_⟩:=hx9;clear hx8 hx9;cases u1
     ·rw [Bool.not_false] at v1
      have HR2:=qh (show R=false by rw [←HS.out];simp);go_wp2_with fail
      go_ret
      exact ⟨ret_bool HR2.out.symm,HB.out.trans (BC.out.mono HB.out.size)⟩
     rw [Bool.not_true] at v1;cases u2
     ·rw [Bool.not_false] at v2
      have HR2:=qh (show R=false by rw [←HS.out];simp);go_wp2_with fail
      go_ret
      exact ⟨ret_bool HR2.out.symm,HB.out.trans (BC.out.mono HB.out.size)⟩
     rw [Bool.not_true] at v2;cases u3
     ·skip
      have HR2:=qh (show R=false by rw [←HS.out];simp);go_wp2_with fail
      go_ret
      exact ⟨ret_bool HR2.out.symm,HB.out.trans (BC.out.mono HB.out.size)⟩
     cases u4
     ·skip
      have HR2:=qh (show R=false by rw [←HS.out];simp);go_wp2_with fail
      go_ret
      exact ⟨ret_bool HR2.out.symm,HB.out.trans (BC.out.mono HB.out.size)⟩
     cases u5
     ·have HR2:=qh (show R=false by rw [←HS.out];simp)
      go_wp2_with (go_at_call 53;(with_reducible refine SC2.out.mono ?_);rintro e w5 ⟨rfl,hb⟩;have B5:=btr BC hb;clear hb)
      go_ret
      exact ⟨ret_bool HR2.out.symm,HB.out.trans (B5.out.mono HB.out.size)⟩
     have HS2:=qh (show exsSame (La.drop (q+1)) (Lb.drop (q+1))=R by rw [←HS.out];simp);have w1:IntKind.i64.wrap ((q:Int)+1)=((q+1:Nat):Int):=by rw [IntKind.wrap_i64];omega
     go_wp2_with (go_at_call 53;(with_reducible refine SC2.out.mono ?_);rintro e w5 ⟨rfl,hb⟩;have B5:=btr BC hb;clear hb)
     go_roundw
     case rel=>exact ⟨q+1,by omega,by go_num,(R1.out.below B5.out).more B5.out.size,(R2.out.below B5.out).more B5.out.size,ExsAt.below B5.out B5.out.size E1.out,ExsAt.below B5.out B5.out.size E2.out,HB.out.trans (B5.out.mono HB.out.size),HS2.out⟩
     case measure=>simp [intOf];omega
   ·obtain rfl:q=n:=by omega
    have hz:¬ (q:Int)<q:=by omega
    rw [List.drop_of_length_le (by rw [LA.out];exact Nat.le_refl _),List.drop_of_length_le (by rw [LB.out];exact Nat.le_refl _)] at hs;have HS:=qh hs;have HB:=qh hb;clear hs hb hr1 hr2 he1 he2;go_wp2_with fail
    go_ret
    exact ⟨ret_bool (by rw [←HS.out];rfl),HB.out⟩
theorem drop_beq {α:Type} [BEq α] {L M:List α} {i:Nat} {x y:α} (h1:L[i]?=some x) (h2:M[i]?=some y):(L.drop i==M.drop i)=(x==y&&L.drop (i+1)==M.drop (i+1)):=by
  obtain ⟨a1,a2⟩:=List.getElem?_eq_some_iff.1 h1;obtain ⟨b1,b2⟩:=List.getElem?_eq_some_iff.1 h2;rw [List.drop_eq_getElem_cons a1,List.drop_eq_getElem_cons b1,List.cons_beq_cons,a2,b2]
theorem ne_len {α:Type} [BEq α] [LawfulBEq α] {L M:List α} (h:L.length≠M.length):(L==M)=false:=by
  rw [beq_eq_false_iff_ne];intro e;exact h (by rw [e])
theorem drop_end {α:Type} [BEq α] {L M:List α} {n:Nat} (h1:L.length=n) (h2:M.length=n):(L.drop n==M.drop n)=true:=by
  rw [List.drop_of_length_le (by omega),List.drop_of_length_le (by omega)];rfl
theorem rints_any (La Lb:List Int) (sa sb:Sl) (w:World) (m:Nat) (h1:RS iC 1 w w.heap.size sa La) (h2:RS iC 1 w w.heap.size sb Lb) :
    Calls Tryz.prog 54 #[sa.v,sb.v] (w.drewN m) fun e w'=>e=.returned (.bool (La==Lb))∧∃ n,w'=w.drewN n:=by
  obtain ⟨A,n,cap⟩:=sa;obtain ⟨A',n',cap'⟩:=sb;have h1:Rd iC 1 w w.heap.size A n cap La:=h1;have h2:Rd iC 1 w w.heap.size A' n' cap' Lb:=h2;simp only [Sl.v];have e1:=h1.1;have e2:=h2.1;have hnl:=h1.len_le;have hnl':=h2.len_le;by_cases hlen:n=n'
  rotate_left
  · have hz:((n:Int) != n')=true:=by rw [bne_iff_ne];omega
    have HR:=qh (ne_len (L:=La) (M:=Lb) (by omega));clear h1 h2;go_enter Tryz.func54,Tryz.ntmps54
    go_wp2;go_ret
    exact ⟨ret_bool HR.out.symm,m,rfl⟩
  subst hlen;have R1:=qh h1;have R2:=qh h2;obtain ⟨R,hR⟩:∃ R,(La==Lb)=R:=⟨_,rfl⟩;have HR:=qh hR;have L1:=qh e1;have L2:=qh e2;rw [hR];clear h1 h2 e1 e2 hR;go_enter Tryz.func54,Tryz.ntmps54
  go_upto_region 4 with (fail)
  go_loopw [5] (fun s5 wr=>∃ q j:Nat,q≤n∧s5=.int .i64 q∧(La.drop q==Lb.drop q)=R∧wr=w.drewN j) (fun i _=>n-(intOf i).toNat)
  case atStart=>exact ⟨0,m,Nat.zero_le _,rfl,HR.out,rfl⟩
  case round=>
    obtain ⟨q,j,hq,rfl,hs,rfl⟩:=hrel;by_cases hlt:q<n
    · obtain ⟨b1,o1,x,rfl,hb1,hp,hc1⟩:=R1.out.at hlt
      obtain ⟨b2,o2,y,rfl,hb2,hp',hc2⟩:=R2.out.at hlt;rw [drop_beq hp hp'] at hs;have a0:=hc1 0 _ rfl;have d0:=hc2 0 _ rfl;rw [Nat.add_zero,Nat.mul_one] at a0 d0;obtain ⟨u,hu⟩:∃ u,(x==y)=u:=⟨_,rfl⟩;have v:(x != y)=!u:=by rw [bne,hu]
      rw [hu] at hs;have HS:=qh hs;clear hs hu hc1 hc2 hp hp' hb1 hb2;go_upto_region 6 with (fail)
      go_quiet (fail)
      rename_i nq;have w1:IntKind.i64.wrap ((q:Int)+1)=((q+1:Nat):Int):=by rw [IntKind.wrap_i64];omega
      cases u
      · rw [Bool.not_false] at v
        have HR2:=qh (show R=false by rw [←HS.out];simp);go_wp2_with fail
        go_ret
        exact ⟨ret_bool HR2.out.symm,j+nq,by simp [World.drewN,Nat.add_assoc]⟩
      · rw [Bool.not_true] at v
        have HS2:=qh (show (La.drop (q+1)==Lb.drop (q+1))=R by rw [←HS.out];simp);go_wp2_with fail
        go_roundw
        case rel=>exact ⟨q+1,j+nq,by omega,by go_num,HS2.out,by simp [World.drewN]⟩
        case measure=>simp [intOf];omega
    · obtain rfl:q=n:=by omega
      have hz:¬ (q:Int)<q:=by omega
      rw [drop_end L1.out L2.out] at hs;have HS:=qh hs;clear hs;go_wp2_with fail
      go_ret
      exact ⟨ret_bool HS.out,_,rfl⟩
end tr
end Go.Proofs.YtdefgghhkknnpaaGreatDoor

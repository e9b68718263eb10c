/- For every text the law ShowRead returns true and leaves its argument as it was: the given statement Rows.ShowReadCardSaid. No condition beyond the given row (its listed library tables lie as the text of the program lays them; the library's variable MaxLen holds some number). Ahead of it, what it leans on. The reference's comparison of two programs, but for lines: it tells whether they are the same; what was in memory is as it was. No condition. For any text the law ShowRead returns true, and what was in memory is as it was. Conditions: the library's variable MaxLen holds some number, its table of powers of ten lies as it lays it. -/
import Derived.Test.YtdefgghhkknnpaaGreatDoorE27
import Derived.Test.YtdefgghhkknnpaaGreatDoorE28
import Derived.Test.YtdefgghhkknnpaaGreatDoorE30
import Derived.Test.YtdefgghhkknnpaaGreatDoorTie
import Derived.Test.YtdefgghhkknnpaaGreatDoorCards
import Derived.ChangeMaps5
import Derived.SevenTiedAt
import Derived.Deep.DeepHandedRow
set_option linter.unusedVariables false
set_option linter.unusedSimpArgs false
set_option maxRecDepth 100000
set_option maxHeartbeats 40000000
namespace Go.Proofs.YtdefgghhkknnpaaGreatDoor
namespace tr
open ChangeShapes WideShapes ChangeAt RowKit k rr tk
theorem vasSame_len:∀ {L M:List Va},L.length≠M.length→vasSame L M=false
 | [],[],h=>absurd rfl h
 | [],_::_,_=>rfl
 | _::_,[],_=>rfl
 | x::L,y::M,h=>by rw [vasSame,vasSame_len (by simpa using h)];simp
theorem vasSame_at {L M:List Va} {i:Nat} {x y:Va} (h1:L[i]?=some x) (h2:M[i]?=some y):vasSame (L.drop i) (M.drop i)=(vaSame x y&&vasSame (L.drop (i+1)) (M.drop (i+1))):=by
 obtain ⟨a1,a2⟩:=List.getElem?_eq_some_iff.1 h1;obtain ⟨b1,b2⟩:=List.getElem?_eq_some_iff.1 h2;rw [List.drop_eq_getElem_cons a1,List.drop_eq_getElem_cons b1,vasSame,a2,b2]
theorem vaC_ones (s:ByteArray) (a b:Int) (c:Bool) (d e f g:Int):∀ v∈[Value.string s,.int .i64 a,.int .i64 b,.bool c,.int .i64 d,.int .i64 e,.int .i64 f,.int .i64 g],v.oneCell'=true:=by
 intro v hv;simp only [List.mem_cons,List.not_mem_nil,or_false] at hv;rcases hv with rfl|rfl|rfl|rfl|rfl|rfl|rfl|rfl<;>rfl
theorem rsame_any (p q:Pg) (h h':GH) (w:World) (hp:PgAt w w.heap.size p h) (hq:PgAt w w.heap.size q h'):Calls Tryz.prog 13 #[.agg (gC h).toArray,.agg (gC h').toArray,.bool false] w fun e w'=>e=.returned (.bool (pgSame p q))∧Below w.heap.size w w':=by
 obtain ⟨pn,pv,pb⟩:=p;obtain ⟨qn,qv,qb⟩:=q;obtain ⟨xs0',⟨xvA,xvl,xvc⟩,⟨xbA,xbl,xbc⟩⟩:=h;obtain ⟨ys0',⟨yvA,yvl,yvc⟩,⟨ybA,ybl,ybc⟩⟩:=h';obtain ⟨e1,g1,g2⟩:=hp;obtain ⟨e2,g3,g4⟩:=hq;simp only at e1 e2 g1 g2 g3 g4;subst e1 e2;simp only [gC,sv,Sl.v];have g1:Rd vC 8 w w.heap.size xvA xvl xvc pv:=g1;have g3:Rd vC 8 w w.heap.size yvA yvl yvc qv:=g3;obtain ⟨xs0,hxs0⟩:∃ z,(⟨xs0'.toArray⟩:ByteArray)=z:=⟨_,rfl⟩;obtain ⟨ys0,hys0⟩:∃ z,(⟨ys0'.toArray⟩:ByteArray)=z:=⟨_,rfl⟩;have t0:=st_eq hxs0 hys0;rw [hxs0,hys0];obtain ⟨R,hR⟩:∃ R,pgSame ⟨xs0',pv,pb⟩ ⟨ys0',qv,qb⟩=R:=⟨_,rfl⟩;rw [hR];unfold pgSame at hR;simp only at hR;obtain ⟨u1,hu1⟩:∃ u,(xs0'==ys0')=u:=⟨_,rfl⟩;obtain ⟨u2,hu2⟩:∃ u,(xvl==yvl)=u:=⟨_,rfl⟩;obtain ⟨u3,hu3⟩:∃ u,vasSame pv qv=u:=⟨_,rfl⟩;obtain ⟨u4,hu4⟩:∃ u,stsSame pb qb=u:=⟨_,rfl⟩;have hu3':=hu3;rw [hu1,hu3,hu4] at hR;rw [hu1] at t0;have castB:∀ a b:Nat,((a:Int)==(b:Int))=(a==b):=fun a b=>by rw [Bool.eq_iff_iff,beq_iff_eq,beq_iff_eq];omega
 have v2:((xvl:Int) != (yvl:Int))=!u2:=by rw [bne,castB,hu2]
 have l1:=g1.1;have l2:=g3.1;have N2:=qh (show u2=false→u3=false from fun h=>by rw [←hu3];exact vasSame_len (by have:=hu2.trans h;rw [beq_eq_false_iff_ne] at this;omega));have Y2:=qh (show u2=true→xvl=yvl from fun h=>by have:=hu2.trans h;rw [beq_iff_eq] at this;exact this);have HR:=qh hR;have H3:=qh hu3;have bx:=g1.len_le;have by_:=g3.len_le;have SC:=qh (show ∀ W,Below w.heap.size w W→Calls Tryz.prog 30 #[.slice xbA xbl xbc,.slice ybA ybl ybc,.bool false] W fun e w'=>e=.returned (.bool u4)∧Below W.heap.size W w' from fun W h=>hu4 ▸ rstmts_any _ _ _ (Nat.lt_succ_self _) ⟨xbA,xbl,xbc⟩ ⟨ybA,ybl,ybc⟩ W (StL.below g2 h h.size) (StL.below g4 h h.size));have R1:=qh g1;have R2:=qh g3;have LL:=qh (And.intro l1 l2);have x3:=Box.new w #[.string xs0,.slice xvA xvl xvc,.slice xbA xbl xbc] 25;have x4:=Box.new (w.alloc (.cells #[.string xs0,.slice xvA xvl xvc,.slice xbA xbl xbc] 25)) #[.string ys0,.slice yvA yvl yvc,.slice ybA ybl ybc] 25;have hb3:=(Below.refl w.heap.size w).alloc (Nat.le_refl _) (.cells #[.string xs0,.slice xvA xvl xvc,.slice xbA xbl xbc] 25);have hz3:(w.alloc (.cells #[.string xs0,.slice xvA xvl xvc,.slice xbA xbl xbc] 25)).heap.size=w.heap.size+1:=by simp
 have hb4:=(Below.refl (w.alloc (.cells #[.string xs0,.slice xvA xvl xvc,.slice xbA xbl xbc] 25)).heap.size (w.alloc (.cells #[.string xs0,.slice xvA xvl xvc,.slice xbA xbl xbc] 25))).alloc (Nat.le_refl _) (.cells #[.string ys0,.slice yvA yvl yvc,.slice ybA ybl ybc] 25);have hz4:((w.alloc (.cells #[.string xs0,.slice xvA xvl xvc,.slice xbA xbl xbc] 25)).alloc (.cells #[.string ys0,.slice yvA yvl yvc,.slice ybA ybl ybc] 25)).heap.size=w.heap.size+2:=by simp
 have y3:=x3.below hb4 (by omega);have b34:=hb3.trans (hb4.mono hb3.size);rw [hz3] at x4;have X3:=qh y3;have X4:=qh x4;have B4:=qh b34;have Z4:=qh hz4;clear g1 g2 g3 g4 hu1 hu2 hu3 hu3' hu4 hR castB l1 l2 x3 x4 hb3 hz3 hb4 hz4 y3 b34 hxs0 hys0;go_enter Tryz.func13,Tryz.ntmps13
 go_upto_region 1 with (fail)
 generalize (w.alloc (.cells #[.string xs0,.slice xvA xvl xvc,.slice xbA xbl xbc] 25)).alloc (.cells #[.string ys0,.slice yvA yvl yvc,.slice ybA ybl ybc] 25)=w4 at *;generalize hg0:w.heap.size=g0 at X3 X4 Z4 ⊢;have HG0:=qh hg0;clear hg0;have ⟨a0,_,a1,_,a2,_,_⟩:=X3.out;have ⟨d0,_,d1,_,d2,_,_⟩:=X4.out;cases u1
 ·have HR2:=qh (show R=false by rw [←HR.out];simp)
  go_wp2_with fail
  go_ret
  exact ⟨ret_bool HR2.out.symm,B4.out⟩
 cases u2
 ·rw [Bool.not_false] at v2
  have HR2:=qh (show R=false by rw [←HR.out,N2.out rfl];simp);go_wp2_with fail
  go_ret
  exact ⟨ret_bool HR2.out.symm,B4.out⟩
 rw [Bool.not_true] at v2;obtain rfl:=Y2.out rfl;go_upto_region 4 with (fail)
 clear a0 a1 a2 d0 d1 d2 v2 t0;go_loopw [7] (fun s7 wr=>∃ q:Nat,q≤xvl∧s7=.int .i64 q∧Below w4.heap.size w4 wr∧vasSame (pv.drop q) (qv.drop q)=u3) (fun i _=>xvl-(intOf i).toNat)
 case atStart=>exact ⟨0,Nat.zero_le _,rfl,Below.refl _ _,H3.out⟩
 case round=>
  obtain ⟨q,hq,rfl,hb,hs⟩:=hrel;have BC:=btr B4 hb;have X3r:=qh (X3.out.below hb (by have:=Z4.out;omega));have X4r:=qh (X4.out.below hb (by have:=Z4.out;omega));have HB4:=qh hb;have Z4r:=qh (show g0+1<wr.heap.size from Nat.lt_of_lt_of_le (by have:=Z4.out;omega) hb.size);have a1:=(k.cell_of X3r.out (i:=1) rfl).1;have d1:=(k.cell_of X4r.out (i:=1) rfl).1;have hs8:=Z4r.out;have hs7:g0<wr.heap.size:=by omega
  clear hb;by_cases hlt:q<xvl
  ·have hr1:=(R1.out.below BC.out).more BC.out.size
   have hr2:=(R2.out.below BC.out).more BC.out.size;obtain ⟨b1,o1,⟨xs',xty,xse,xar,xlo,xhi,xin,xln⟩,e1,hb1,hp,hc1⟩:=hr1.at hlt;obtain ⟨b2,o2,⟨ys',yty,yse,yar,ylo,yhi,yin,yln⟩,e2,hb2,hp',hc2⟩:=hr2.at hlt;subst e1;subst e2;rw [vasSame_at hp hp'] at hs;simp only [vC,sv] at hc1 hc2;unfold vaSame at hs;simp only at hs;obtain ⟨xs,hxs⟩:∃ z,(⟨xs'.toArray⟩:ByteArray)=z:=⟨_,rfl⟩;obtain ⟨ys,hys⟩:∃ z,(⟨ys'.toArray⟩:ByteArray)=z:=⟨_,rfl⟩;have t1:=st_eq hxs hys;rw [hxs] at hc1;rw [hys] at hc2;obtain ⟨y1,hy1⟩:∃ u,(xs'==ys')=u:=⟨_,rfl⟩;obtain ⟨y2,hy2⟩:∃ u,(xty==yty)=u:=⟨_,rfl⟩;obtain ⟨y3,hy3⟩:∃ u,(xse==yse)=u:=⟨_,rfl⟩;obtain ⟨y4,hy4⟩:∃ u,(xar==yar)=u:=⟨_,rfl⟩;obtain ⟨y5,hy5⟩:∃ u,(xlo==ylo)=u:=⟨_,rfl⟩;obtain ⟨y6,hy6⟩:∃ u,(xhi==yhi)=u:=⟨_,rfl⟩;obtain ⟨y7,hy7⟩:∃ u,(xin==yin)=u:=⟨_,rfl⟩;rw [hy1,hy2,hy3,hy4,hy5,hy6,hy7] at hs;rw [hy1] at t1;have HS:=qh hs;have TY:=qh (And.intro t1 (And.intro hy2 (And.intro hy3 (And.intro hy4 (And.intro hy5 (And.intro hy6 hy7))))));clear hr1 hr2 hp hp' hs t1 hxs hys hy1 hy2 hy3 hy4 hy5 hy6 hy7;go_upto_region 6 with (fail)
   go_cut [8,9] from 31 to 40 (fun p q wx=>∃ g8 g9:Nat,p=.pointer (some ⟨g8,0,none⟩)∧q=.pointer (some ⟨g9,0,none⟩)∧Box wx g8 0 [.string xs,.int .i64 xty,.int .i64 xse,.bool xar,.int .i64 xlo,.int .i64 xhi,.int .i64 xin,.int .i64 xln]∧Box wx g9 0 [.string ys,.int .i64 yty,.int .i64 yse,.bool yar,.int .i64 ylo,.int .i64 yhi,.int .i64 yin,.int .i64 yln]∧g8≠g9∧wr.heap.size≤g8∧wr.heap.size≤g9∧g8<wx.heap.size∧g9<wx.heap.size∧Below wr.heap.size wr wx)
   case first=>
    refine wp_region_T (by kernel_rfl) (fun w'=>Below wr.heap.size wr w') [] (Below.refl _ _).drew (fun hHeld=>?_);refine tkr (i:=0) rfl ?_;try simp only [Act.put,List.setIfInBounds_toArray,List.set_cons_zero,List.set_cons_succ,List.getElem_toArray,List.getElem_cons_zero]
    refine tkq (i:=1) (v:=?_) rfl ?_ ?_;rotate_left 1
    ·intro w hSw;have s_:=(hSw.cell (p:=⟨g0,1,none⟩) hs7).trans a1;clear hSw;go_simp<;>(with_reducible rfl)
    try simp only [lq0,lq7,lq1,lq2,lq3,lq4,lq5,lq6]
    refine tkr (i:=2) rfl ?_;try simp only [lq0,lq7,lq1,lq2,lq3,lq4,lq5,lq6]
    refine tkr (i:=3) rfl ?_;try simp only [lq0,lq7,lq1,lq2,lq3,lq4,lq5,lq6]
    refine wpAnyT_take (i:=4) rfl (by kernel_rfl) (by kernel_rfl) (by kernel_rfl) (fun _ _ _ h=>h) (yieldsIf_load_mid (by rfl) 60 (.tmp 34) rfl b1 (o1+q*8) rfl [.string xs,.int .i64 xty,.int .i64 xse,.bool xar,.int .i64 xlo,.int .i64 xhi,.int .i64 xin,.int .i64 xln] _ (fun _ hb'=>range_below hc1 hb' hb1) rfl rfl (by kernel_rfl)) (by assumption) ?_;try simp only [lq0,lq7,lq1,lq2,lq3,lq4,lq5,lq6]
    refine tkr (i:=5) rfl ?_;try simp only [lq0,lq7,lq1,lq2,lq3,lq4,lq5,lq6]
    refine tkq (i:=6) (v:=?_) rfl ?_ ?_;rotate_left 1
    ·intro w hSw;have s_:=(hSw.cell (p:=⟨g0+1,1,none⟩) hs8).trans d1;clear hSw;go_simp<;>(with_reducible rfl)
    try simp only [lq0,lq7,lq1,lq2,lq3,lq4,lq5,lq6]
    refine tkr (i:=7) rfl ?_;try simp only [lq0,lq7,lq1,lq2,lq3,lq4,lq5,lq6]
    refine tkr (i:=8) rfl ?_;try simp only [lq0,lq7,lq1,lq2,lq3,lq4,lq5,lq6]
    refine wpAnyT_take (i:=9) rfl (by kernel_rfl) (by kernel_rfl) (by kernel_rfl) (fun _ _ _ h=>h) (yieldsIf_load_mid (by rfl) 60 (.tmp 39) rfl b2 (o2+q*8) rfl [.string ys,.int .i64 yty,.int .i64 yse,.bool yar,.int .i64 ylo,.int .i64 yhi,.int .i64 yin,.int .i64 yln] _ (fun _ hb'=>range_below hc2 hb' hb2) rfl rfl (by kernel_rfl)) (by assumption) ?_;try simp only [lq0,lq7,lq1,lq2,lq3,lq4,lq5,lq6]
    refine wpAnyT_ready (rs:=[10,11]) (by kernel_rfl) (by simp) ?_;refine AllReadyT.cons rfl (fun K hK=>?_) (AllReadyT.cons rfl (fun K hK=>?_) AllReadyT.nil)
    ·go_simp
     have hA:Below wr.heap.size wr (wr.alloc (.cells #[.string ⟨#[]⟩,.int .i64 0,.int .i64 0,.bool false,.int .i64 0,.int .i64 0,.int .i64 0,.int .i64 0] 60)).drew:=((Below.refl _ _).alloc (Nat.le_refl _) _).drew;refine hK.out _ _ hA (fun hHeld=>?_);clear hK K hA;try simp only [lq0,lq7,lq1,lq2,lq3,lq4,lq5,lq6]
     refine wpAnyT_ready (rs:=[11]) (by kernel_rfl) (by simp) ?_;refine AllReadyT.cons rfl (fun K hK=>?_) AllReadyT.nil;go_simp;obtain ⟨x1,x2,hb,hz⟩:=boxes2 (Below.refl ((wr.alloc (.cells #[.string ⟨#[]⟩,.int .i64 0,.int .i64 0,.bool false,.int .i64 0,.int .i64 0,.int .i64 0,.int .i64 0] 60)).alloc (.cells #[.string ⟨#[]⟩,.int .i64 0,.int .i64 0,.bool false,.int .i64 0,.int .i64 0,.int .i64 0,.int .i64 0] 60)).heap.size ((wr.alloc (.cells #[.string ⟨#[]⟩,.int .i64 0,.int .i64 0,.bool false,.int .i64 0,.int .i64 0,.int .i64 0,.int .i64 0] 60)).alloc (.cells #[.string ⟨#[]⟩,.int .i64 0,.int .i64 0,.bool false,.int .i64 0,.int .i64 0,.int .i64 0,.int .i64 0] 60)));have hB:Below wr.heap.size wr ((wr.alloc (.cells #[.string ⟨#[]⟩,.int .i64 0,.int .i64 0,.bool false,.int .i64 0,.int .i64 0,.int .i64 0,.int .i64 0] 60)).alloc (.cells #[.string ⟨#[]⟩,.int .i64 0,.int .i64 0,.bool false,.int .i64 0,.int .i64 0,.int .i64 0,.int .i64 0] 60)).drew:=hb.drew;have y1:=sbox_drew x1;have y2:=sbox_drew x2;have z2:wr.heap.size+1<((wr.alloc (.cells #[.string ⟨#[]⟩,.int .i64 0,.int .i64 0,.bool false,.int .i64 0,.int .i64 0,.int .i64 0,.int .i64 0] 60)).alloc (.cells #[.string ⟨#[]⟩,.int .i64 0,.int .i64 0,.bool false,.int .i64 0,.int .i64 0,.int .i64 0,.int .i64 0] 60)).drew.heap.size:=hz;clear x1 x2 hb hz;generalize ((wr.alloc (.cells #[.string ⟨#[]⟩,.int .i64 0,.int .i64 0,.bool false,.int .i64 0,.int .i64 0,.int .i64 0,.int .i64 0] 60)).alloc (.cells #[.string ⟨#[]⟩,.int .i64 0,.int .i64 0,.bool false,.int .i64 0,.int .i64 0,.int .i64 0,.int .i64 0] 60)).drew=w2 at *;have X1:=qh y1;have X2:=qh y2;clear y1 y2;refine hK.out _ _ hB (fun hHeld=>?_);clear hK K hHeld;try simp only [lq0,lq7,lq1,lq2,lq3,lq4,lq5,lq6]
     refine wpAnyT_ready (rs:=[12]) (by kernel_rfl) (by simp) ?_;refine AllReadyT.cons rfl (fun K hK=>?_) AllReadyT.nil;obtain ⟨w3,hW,x,hz,hb,_⟩:=k.stored (us:=[.string xs,.int .i64 xty,.int .i64 xse,.bool xar,.int .i64 xlo,.int .i64 xhi,.int .i64 xin,.int .i64 xln]) X1.out rfl;have y:=aside_stored hW (by omega:wr.heap.size≠(wr.heap.size+1)) X2.out;refine wp_store_mid 60 (.tmp 8) (.tmp 35) rfl wr.heap.size 0 ([.string xs,.int .i64 xty,.int .i64 xse,.bool xar,.int .i64 xlo,.int .i64 xhi,.int .i64 xin,.int .i64 xln]).toArray rfl rfl (there_of X1.out rfl) (by kernel_rfl) (all_oneCell_toArray (vaC_ones _ _ _ _ _ _ _ _)) ?_;have hBn:=hB.trans (hb wr.heap.size (by omega));have z2n:wr.heap.size+1<w3.heap.size:=by rw [hz];exact z2
     simp only [hW];have X1n:=qh x;have X2n:=qh y;clear hb hz hW x y hB z2 X1 X2;have hB:=hBn;have z2:=z2n;have X1:=qh X1n.out;have X2:=qh X2n.out;clear hBn z2n X1n X2n;refine hK.out _ _ hB (fun hHeld=>?_);clear hK K hHeld;try simp only [Act.put,List.getElem_toArray,List.getElem_cons_succ,List.getElem_cons_zero]
     refine wpAnyT_ready (rs:=[13]) (by kernel_rfl) (by simp) ?_;refine AllReadyT.cons rfl (fun K hK=>?_) AllReadyT.nil;obtain ⟨w4,hW,x,hz,hb,_⟩:=k.stored (us:=[.string ys,.int .i64 yty,.int .i64 yse,.bool yar,.int .i64 ylo,.int .i64 yhi,.int .i64 yin,.int .i64 yln]) X2.out rfl;have y:=aside_stored hW (by omega:(wr.heap.size+1)≠wr.heap.size) X1.out;refine wp_store_mid 60 (.tmp 9) (.tmp 40) rfl (wr.heap.size+1) 0 ([.string ys,.int .i64 yty,.int .i64 yse,.bool yar,.int .i64 ylo,.int .i64 yhi,.int .i64 yin,.int .i64 yln]).toArray rfl rfl (there_of X2.out rfl) (by kernel_rfl) (all_oneCell_toArray (vaC_ones _ _ _ _ _ _ _ _)) ?_;have hBn:=hB.trans (hb wr.heap.size (by omega));have z2n:wr.heap.size+1<w4.heap.size:=by rw [hz];exact z2
     simp only [hW];have X2n:=qh x;have X1n:=qh y;clear hb hz hW x y hB z2 X1 X2;have hB:=hBn;have z2:=z2n;have X1:=qh X1n.out;have X2:=qh X2n.out;clear hBn z2n X1n X2n;refine hK.out _ _ hB (fun hHeld=>?_);clear hK K hHeld;try simp only [Act.put,List.getElem_toArray,List.getElem_cons_succ,List.getElem_cons_zero]
     refine wpAnyT_done (by kernel_rfl) ?_ _;go_wp2_with fail
     go_meet
     case rel=>exact ⟨wr.heap.size,(wr.heap.size+1),rfl,rfl,X1.out,X2.out,by omega,by omega,by omega,by omega,by omega,hB⟩
    ·go_simp
     have hA:Below wr.heap.size wr (wr.alloc (.cells #[.string ⟨#[]⟩,.int .i64 0,.int .i64 0,.bool false,.int .i64 0,.int .i64 0,.int .i64 0,.int .i64 0] 60)).drew:=((Below.refl _ _).alloc (Nat.le_refl _) _).drew;refine hK.out _ _ hA (fun hHeld=>?_);clear hK K hA;try simp only [lq0,lq7,lq1,lq2,lq3,lq4,lq5,lq6]
     refine wpAnyT_ready (rs:=[10]) (by kernel_rfl) (by simp) ?_;refine AllReadyT.cons rfl (fun K hK=>?_) AllReadyT.nil;go_simp;obtain ⟨x1,x2,hb,hz⟩:=boxes2 (Below.refl ((wr.alloc (.cells #[.string ⟨#[]⟩,.int .i64 0,.int .i64 0,.bool false,.int .i64 0,.int .i64 0,.int .i64 0,.int .i64 0] 60)).alloc (.cells #[.string ⟨#[]⟩,.int .i64 0,.int .i64 0,.bool false,.int .i64 0,.int .i64 0,.int .i64 0,.int .i64 0] 60)).heap.size ((wr.alloc (.cells #[.string ⟨#[]⟩,.int .i64 0,.int .i64 0,.bool false,.int .i64 0,.int .i64 0,.int .i64 0,.int .i64 0] 60)).alloc (.cells #[.string ⟨#[]⟩,.int .i64 0,.int .i64 0,.bool false,.int .i64 0,.int .i64 0,.int .i64 0,.int .i64 0] 60)));have hB:Below wr.heap.size wr ((wr.alloc (.cells #[.string ⟨#[]⟩,.int .i64 0,.int .i64 0,.bool false,.int .i64 0,.int .i64 0,.int .i64 0,.int .i64 0] 60)).alloc (.cells #[.string ⟨#[]⟩,.int .i64 0,.int .i64 0,.bool false,.int .i64 0,.int .i64 0,.int .i64 0,.int .i64 0] 60)).drew:=hb.drew;have y1:=sbox_drew x1;have y2:=sbox_drew x2;have z2:wr.heap.size+1<((wr.alloc (.cells #[.string ⟨#[]⟩,.int .i64 0,.int .i64 0,.bool false,.int .i64 0,.int .i64 0,.int .i64 0,.int .i64 0] 60)).alloc (.cells #[.string ⟨#[]⟩,.int .i64 0,.int .i64 0,.bool false,.int .i64 0,.int .i64 0,.int .i64 0,.int .i64 0] 60)).drew.heap.size:=hz;clear x1 x2 hb hz;generalize ((wr.alloc (.cells #[.string ⟨#[]⟩,.int .i64 0,.int .i64 0,.bool false,.int .i64 0,.int .i64 0,.int .i64 0,.int .i64 0] 60)).alloc (.cells #[.string ⟨#[]⟩,.int .i64 0,.int .i64 0,.bool false,.int .i64 0,.int .i64 0,.int .i64 0,.int .i64 0] 60)).drew=w2 at *;have X1:=qh y1;have X2:=qh y2;clear y1 y2;refine hK.out _ _ hB (fun hHeld=>?_);clear hK K hHeld;try simp only [lq0,lq7,lq1,lq2,lq3,lq4,lq5,lq6]
     refine wpAnyT_ready (rs:=[12]) (by kernel_rfl) (by simp) ?_;refine AllReadyT.cons rfl (fun K hK=>?_) AllReadyT.nil;obtain ⟨w3,hW,x,hz,hb,_⟩:=k.stored (us:=[.string xs,.int .i64 xty,.int .i64 xse,.bool xar,.int .i64 xlo,.int .i64 xhi,.int .i64 xin,.int .i64 xln]) X2.out rfl;have y:=aside_stored hW (by omega:(wr.heap.size+1)≠wr.heap.size) X1.out;refine wp_store_mid 60 (.tmp 8) (.tmp 35) rfl (wr.heap.size+1) 0 ([.string xs,.int .i64 xty,.int .i64 xse,.bool xar,.int .i64 xlo,.int .i64 xhi,.int .i64 xin,.int .i64 xln]).toArray rfl rfl (there_of X2.out rfl) (by kernel_rfl) (all_oneCell_toArray (vaC_ones _ _ _ _ _ _ _ _)) ?_;have hBn:=hB.trans (hb wr.heap.size (by omega));have z2n:wr.heap.size+1<w3.heap.size:=by rw [hz];exact z2
     simp only [hW];have X2n:=qh x;have X1n:=qh y;clear hb hz hW x y hB z2 X1 X2;have hB:=hBn;have z2:=z2n;have X1:=qh X1n.out;have X2:=qh X2n.out;clear hBn z2n X1n X2n;refine hK.out _ _ hB (fun hHeld=>?_);clear hK K hHeld;try simp only [Act.put,List.getElem_toArray,List.getElem_cons_succ,List.getElem_cons_zero]
     refine wpAnyT_ready (rs:=[13]) (by kernel_rfl) (by simp) ?_;refine AllReadyT.cons rfl (fun K hK=>?_) AllReadyT.nil;obtain ⟨w4,hW,x,hz,hb,_⟩:=k.stored (us:=[.string ys,.int .i64 yty,.int .i64 yse,.bool yar,.int .i64 ylo,.int .i64 yhi,.int .i64 yin,.int .i64 yln]) X1.out rfl;have y:=aside_stored hW (by omega:wr.heap.size≠(wr.heap.size+1)) X2.out;refine wp_store_mid 60 (.tmp 9) (.tmp 40) rfl wr.heap.size 0 ([.string ys,.int .i64 yty,.int .i64 yse,.bool yar,.int .i64 ylo,.int .i64 yhi,.int .i64 yin,.int .i64 yln]).toArray rfl rfl (there_of X1.out rfl) (by kernel_rfl) (all_oneCell_toArray (vaC_ones _ _ _ _ _ _ _ _)) ?_;have hBn:=hB.trans (hb wr.heap.size (by omega));have z2n:wr.heap.size+1<w4.heap.size:=by rw [hz];exact z2
     simp only [hW];have X1n:=qh x;have X2n:=qh y;clear hb hz hW x y hB z2 X1 X2;have hB:=hBn;have z2:=z2n;have X1:=qh X1n.out;have X2:=qh X2n.out;clear hBn z2n X1n X2n;refine hK.out _ _ hB (fun hHeld=>?_);clear hK K hHeld;try simp only [Act.put,List.getElem_toArray,List.getElem_cons_succ,List.getElem_cons_zero]
     refine wpAnyT_done (by kernel_rfl) ?_ _;go_wp2_with fail
     go_meet
     case rel=>exact ⟨(wr.heap.size+1),wr.heap.size,rfl,rfl,X2.out,X1.out,by omega,by omega,by omega,by omega,by omega,hB⟩
   case rest=>
    obtain ⟨g8,g9,rfl,rfl,hx8,hx9,hne,hw8,hw9,hl8,hl9,hBc⟩:=hcut;obtain ⟨wo,rfl⟩:∃ wo:World,wo=wr:=⟨_,rfl⟩;have X8:=qh hx8;have X9:=qh hx9;have BCc:=btr BC hBc;have BC4:=btr HB4 hBc;have hne2:¬ g9=g8:=by omega
    have ⟨c0,f0,c1,f1,c2,f2,c3,f3,c4,f4,c5,f5,c6,f6,c7,f7,_⟩:=X8.out;have ⟨k0,l0,k1,l1,k2,l2,k3,l3,k4,l4,k5,l5,k6,l6,k7,l7,_⟩:=X9.out;clear hx8 hx9 hBc a1 d1 hb1 hb2 hc1 hc2;go_upto_region 9 with (fail)
    have n8:=Box_aside (show g9≠g8 by omega) (i:=7) (.int .i64 0) (X8.out.put 7 (by simp) (.int .i64 0));have n9:=(Box_aside (show g8≠g9 by omega) (i:=7) (.int .i64 0) X9.out).put 7 (by simp) (.int .i64 0);have b9:=(Below.setCell (p:=⟨g8,7,none⟩) (Below.refl w4.heap.size wc) (show w4.heap.size≤g8 by have:=HB4.out.size;omega) (.int .i64 0)).setCell (p:=⟨g9,7,none⟩) (show w4.heap.size≤g9 by have:=HB4.out.size;omega) (.int .i64 0);have b9w:=(Below.setCell (p:=⟨g8,7,none⟩) (Below.refl w.heap.size wc) (show w.heap.size≤g8 by have:=BC.out.size;omega) (.int .i64 0)).setCell (p:=⟨g9,7,none⟩) (show w.heap.size≤g9 by have:=BC.out.size;omega) (.int .i64 0);simp only [List.set_cons_succ,List.set_cons_zero] at n8 n9;clear X8 X9 c0 f0 c1 f1 c2 f2 c3 f3 c4 f4 c5 f5 c6 f6 c7 f7 k0 l0 k1 l1 k2 l2 k3 l3 k4 l4 k5 l5 k6 l6 k7 l7;generalize (wc.setCell ⟨g8,7,none⟩ (.int .i64 0)).setCell ⟨g9,7,none⟩ (.int .i64 0)=w9 at *;have B9:=qh (BCc.out.trans b9w);have BB4:=qh (BC4.out.trans b9);have ⟨c0,_,c1,_,c2,_,c3,_,c4,_,c5,_,c6,_,c7,_,_⟩:=n8;have ⟨k0,_,k1,_,k2,_,k3,_,k4,_,k5,_,k6,_,k7,_,_⟩:=n9;clear n8 n9 b9 b9w BCc BC4;obtain ⟨t1,t2,t3,t4,t5,t6,t7⟩:=TY.out;clear TY;cases y1
    ·have HR2:=qh (show R=false by rw [←HR.out,←HS.out];simp)
     go_wp2_with fail
     go_ret
     exact ⟨ret_bool HR2.out.symm,B9.out⟩
    cases y2
    ·have HR2:=qh (show R=false by rw [←HR.out,←HS.out];simp)
     go_wp2_with fail
     go_ret
     exact ⟨ret_bool HR2.out.symm,B9.out⟩
    cases y3
    ·have HR2:=qh (show R=false by rw [←HR.out,←HS.out];simp)
     go_wp2_with fail
     go_ret
     exact ⟨ret_bool HR2.out.symm,B9.out⟩
    cases y4
    ·have HR2:=qh (show R=false by rw [←HR.out,←HS.out];simp)
     go_wp2_with fail
     go_ret
     exact ⟨ret_bool HR2.out.symm,B9.out⟩
    cases y5
    ·have HR2:=qh (show R=false by rw [←HR.out,←HS.out];simp)
     go_wp2_with fail
     go_ret
     exact ⟨ret_bool HR2.out.symm,B9.out⟩
    cases y6
    ·have HR2:=qh (show R=false by rw [←HR.out,←HS.out];simp)
     go_wp2_with fail
     go_ret
     exact ⟨ret_bool HR2.out.symm,B9.out⟩
    cases y7
    ·have HR2:=qh (show R=false by rw [←HR.out,←HS.out];simp)
     go_wp2_with fail
     go_ret
     exact ⟨ret_bool HR2.out.symm,B9.out⟩
    have HS3:=qh (show vasSame (pv.drop (q+1)) (qv.drop (q+1))=u3 by rw [←HS.out];simp);have w1:IntKind.i64.wrap ((q:Int)+1)=((q+1:Nat):Int):=by rw [IntKind.wrap_i64];omega
    go_wp2_with fail
    go_roundw
    case rel=>exact ⟨q+1,by omega,by go_num,BB4.out,HS3.out⟩
    case measure=>simp [intOf];omega
  ·obtain rfl:q=xvl:=by omega
   have hz:¬ (q:Int)<q:=by omega
   rw [List.drop_of_length_le (by rw [LL.out.1];exact Nat.le_refl _),List.drop_of_length_le (by rw [LL.out.2];exact Nat.le_refl _)] at hs;have hs:true=u3:=hs;subst hs;have C:=qh (SC.out _ BC.out);have HR2:=qh (show u4=R by rw [←HR.out];simp);have a2:=(k.cell_of X3r.out (i:=2) rfl).1;have d2:=(k.cell_of X4r.out (i:=2) rfl).1;go_wp2_with (go_at_call 30;fail)
   refine C.out.mono ?_;rintro e w5 ⟨rfl,hb⟩;have B5:=btr BC hb;clear hb C SC;go_wp2_with fail
   go_ret
   exact ⟨ret_bool HR2.out,B5.out⟩
end tr
namespace sh
open ChangeShapes WideShapes ChangeAt RowKit k rr tk tr
theorem ext_list (t:ByteArray) (a b:Nat):(t.extract a b).data.toList=(dr t a).take (b-a):=by rw [tk.extract_dr]
theorem extract_size (s:ByteArray) (n:Nat):(s.extract 0 n).size≤n:=by
 rw [←size_len,ext_list,List.length_take];omega
def cutT (s:ByteArray):ByteArray:=s.extract 0 (min (s.size:Int) 1500).toNat
theorem cutT_le (s:ByteArray):(cutT s).size≤1500:=Nat.le_trans (extract_size _ _) (by omega)
theorem read_no (s:ByteArray) (w:World) (hs:s.size≤maxLen) (hM:MaxL w) (hL:Laid w) {P:Pg} {pk pn:Int} {pt:Str} {pl pc:Nat} {er:Int} (he:(er != 0)=true) (hpx:parse (cutT s).data.toList=(P,er,⟨pk,pt,pn,pl,pc⟩)):Calls Tryz.prog 5 #[.string s] w fun e w'=>e=.returned (.bool true)∧Below w.heap.size w w':=by
 have HK:=qh (awake_any w hM hL);have MX:=qh hM;have LX:=qh hL;have ht:(cutT s).size≤1500:=cutT_le s;unfold cutT at ht hpx;have hs2:(s.size:Int)≤9223372036854775807:=by unfold maxLen at hs;omega
 clear hs hM hL;have HP:=qh hpx;clear hpx;go_enter Tryz.func5,Tryz.ntmps5
 go_wp2_with (go_at_call 6;fail)
 refine (HK.out).mono ?_;rintro e w0 ⟨rfl,hb⟩;have B0:=qh hb;clear hb HK;go_upto_region 4 with (fail)
 have hpx:=HP.out;clear HP;generalize s.extract 0 (min (s.size:Int) 1500).toNat=t at *;clear hs2;have PX:=qh fun W (hMW:MaxL W)=>parse_any t (by omega) W hMW
 unfold GotG at PX;rw [hpx] at PX;simp only at PX;rw [show (tC ⟨pk,pt,pn,pl,pc⟩).toArray=#[.int .i64 pk,.string ⟨pt.toArray⟩,.int .i64 pn,.int .i64 pl,.int .i64 pc] from rfl] at PX;clear ht hpx;go_wp2_with (go_at_call 10;fail)
 with_reducible refine (PX.out _ (MX.out.below B0.out)).mono ?_
 rintro e w1 ⟨⟨n1,⟨VA1,vl1,vc1⟩,⟨SA1,sl1,sc1⟩⟩,rfl,hp,hb⟩;have B1:=btr B0 hb;clear hb B0 PX;simp only [gC,sv,Sl.v];go_upto_region 5 with (fail)
 obtain ⟨x2,_,hb2,hz2⟩:=boxes2 (Below.refl ((w1.alloc (.cells #[.string ⟨n1.toArray⟩,.slice VA1 vl1 vc1,.slice SA1 sl1 sc1] 25)).alloc (.cells #[.int .i64 pk,.string ⟨pt.toArray⟩,.int .i64 pn,.int .i64 pl,.int .i64 pc] 34)).heap.size ((w1.alloc (.cells #[.string ⟨n1.toArray⟩,.slice VA1 vl1 vc1,.slice SA1 sl1 sc1] 25)).alloc (.cells #[.int .i64 pk,.string ⟨pt.toArray⟩,.int .i64 pn,.int .i64 pl,.int .i64 pc] 34)));have hlt:w1.heap.size<((w1.alloc (.cells #[.string ⟨n1.toArray⟩,.slice VA1 vl1 vc1,.slice SA1 sl1 sc1] 25)).alloc (.cells #[.int .i64 pk,.string ⟨pt.toArray⟩,.int .i64 pn,.int .i64 pl,.int .i64 pc] 34)).heap.size:=by simp;omega
 have hp2:=hp.below hb2 hb2.size;clear hp;have B2:=btr B1 hb2;clear hb2 hz2 B1;generalize ((w1.alloc (.cells #[.string ⟨n1.toArray⟩,.slice VA1 vl1 vc1,.slice SA1 sl1 sc1] 25)).alloc (.cells #[.int .i64 pk,.string ⟨pt.toArray⟩,.int .i64 pn,.int .i64 pl,.int .i64 pc] 34))=w2_ at *;generalize w1.heap.size=g1 at *;have P2:=qh hp2;have X2:=qh x2;have Z2:=qh hlt;clear hp2 x2 hlt;go_wp2_with fail
 go_ret
 exact ⟨rfl,B2.out⟩
theorem read_long (s:ByteArray) (w:World) (hs:s.size≤maxLen) (hM:MaxL w) (hL:Laid w) {P:Pg} {pk pn:Int} {pt:Str} {pl pc:Nat} (hpx:parse (cutT s).data.toList=(P,0,⟨pk,pt,pn,pl,pc⟩)) (hg:pgB P=true∧inP P∧wsS P.body≤big∧(pgS P).length≤lim∧showP P=([],13)∧True):Calls Tryz.prog 5 #[.string s] w fun e w'=>e=.returned (.bool true)∧Below w.heap.size w w':=by
 have HK:=qh (awake_any w hM hL);have MX:=qh hM;have LX:=qh hL;have ht:(cutT s).size≤1500:=cutT_le s;unfold cutT at ht hpx;have hs2:(s.size:Int)≤9223372036854775807:=by unfold maxLen at hs;omega
 clear hs hM hL;have HP:=qh hpx;have HG:=qh hg;clear hg hpx;go_enter Tryz.func5,Tryz.ntmps5
 go_wp2_with (go_at_call 6;fail)
 refine (HK.out).mono ?_;rintro e w0 ⟨rfl,hb⟩;have B0:=qh hb;clear hb HK;go_upto_region 4 with (fail)
 have hpx:=HP.out;clear HP;generalize s.extract 0 (min (s.size:Int) 1500).toNat=t at *;clear hs2;have PX:=qh fun W (hMW:MaxL W)=>parse_any t (by omega) W hMW
 unfold GotG at PX;rw [hpx] at PX;simp only at PX;rw [show (tC ⟨pk,pt,pn,pl,pc⟩).toArray=#[.int .i64 pk,.string ⟨pt.toArray⟩,.int .i64 pn,.int .i64 pl,.int .i64 pc] from rfl] at PX;clear ht hpx;go_wp2_with (go_at_call 10;fail)
 with_reducible refine (PX.out _ (MX.out.below B0.out)).mono ?_
 rintro e w1 ⟨⟨n1,⟨VA1,vl1,vc1⟩,⟨SA1,sl1,sc1⟩⟩,rfl,hp,hb⟩;have B1:=btr B0 hb;clear hb B0 PX;simp only [gC,sv,Sl.v];go_upto_region 5 with (fail)
 obtain ⟨x2,_,hb2,hz2⟩:=boxes2 (Below.refl ((w1.alloc (.cells #[.string ⟨n1.toArray⟩,.slice VA1 vl1 vc1,.slice SA1 sl1 sc1] 25)).alloc (.cells #[.int .i64 pk,.string ⟨pt.toArray⟩,.int .i64 pn,.int .i64 pl,.int .i64 pc] 34)).heap.size ((w1.alloc (.cells #[.string ⟨n1.toArray⟩,.slice VA1 vl1 vc1,.slice SA1 sl1 sc1] 25)).alloc (.cells #[.int .i64 pk,.string ⟨pt.toArray⟩,.int .i64 pn,.int .i64 pl,.int .i64 pc] 34)));have hlt:w1.heap.size<((w1.alloc (.cells #[.string ⟨n1.toArray⟩,.slice VA1 vl1 vc1,.slice SA1 sl1 sc1] 25)).alloc (.cells #[.int .i64 pk,.string ⟨pt.toArray⟩,.int .i64 pn,.int .i64 pl,.int .i64 pc] 34)).heap.size:=by simp;omega
 have hp2:=hp.below hb2 hb2.size;clear hp;have B2:=btr B1 hb2;clear hb2 hz2 B1;generalize ((w1.alloc (.cells #[.string ⟨n1.toArray⟩,.slice VA1 vl1 vc1,.slice SA1 sl1 sc1] 25)).alloc (.cells #[.int .i64 pk,.string ⟨pt.toArray⟩,.int .i64 pn,.int .i64 pl,.int .i64 pc] 34))=w2_ at *;generalize w1.heap.size=g1 at *;have P2:=qh hp2;have X2:=qh x2;have Z2:=qh hlt;clear hp2 x2 hlt;obtain ⟨g1_,g2_,g3_,g4_,g5_,g6_⟩:=HG.out;have SX:=qh fun W (hb:Below w.heap.size w W) h (hp:PgAt W W.heap.size P h)=>show_any (MX.out.below hb) (LX.out.below hb) hp g2_ g3_ (fun _=>g4_)
 rw [g5_] at SX;simp only [sv] at SX;have HG6:=qh g6_;clear g1_ g2_ g3_ g4_ g5_ g6_ HG;go_wp2_with (first|((with_reducible refine m_load X2.out 25 3 ?_ ?_ ?_ ?_ ?_ ?_);rfl;rfl;rfl;rfl;kernel_rfl)|(go_at_call 8;fail))
 refine (SX.out _ B2.out ⟨n1,⟨VA1,vl1,vc1⟩,⟨SA1,sl1,sc1⟩⟩ P2.out).mono ?_;rintro e w3 ⟨rfl,hb⟩;have B3:=btr B2 hb;have P3:=qh (P2.out.below hb hb.size);have X3:=qh (X2.out.below hb Z2.out);have Z3:=zbl Z2 hb;clear hb P2 X2 Z2 B2 SX;go_wp2_with fail
 go_ret
 exact ⟨rfl,B3.out⟩
theorem read_deep (s:ByteArray) (w:World) (hs:s.size≤maxLen) (hM:MaxL w) (hL:Laid w) {P:Pg} {pk pn:Int} {pt:Str} {pl pc:Nat} {Q:Pg} {qk qn:Int} {qt:Str} {ql qc:Nat} (hpx:parse (cutT s).data.toList=(P,0,⟨pk,pt,pn,pl,pc⟩)) (hg:pgB P=true∧inP P∧wsS P.body≤big∧(pgS P).length≤lim∧showP P=(pgS P,0)∧(pgS P).length≤16384∧parse (pgS P)=(Q,13,⟨qk,qt,qn,ql,qc⟩)∧True):Calls Tryz.prog 5 #[.string s] w fun e w'=>e=.returned (.bool true)∧Below w.heap.size w w':=by
 have HK:=qh (awake_any w hM hL);have MX:=qh hM;have LX:=qh hL;have ht:(cutT s).size≤1500:=cutT_le s;unfold cutT at ht hpx;have hs2:(s.size:Int)≤9223372036854775807:=by unfold maxLen at hs;omega
 clear hs hM hL;have HP:=qh hpx;have HG:=qh hg;clear hg hpx;go_enter Tryz.func5,Tryz.ntmps5
 go_wp2_with (go_at_call 6;fail)
 refine (HK.out).mono ?_;rintro e w0 ⟨rfl,hb⟩;have B0:=qh hb;clear hb HK;go_upto_region 4 with (fail)
 have hpx:=HP.out;clear HP;generalize s.extract 0 (min (s.size:Int) 1500).toNat=t at *;clear hs2;have PX:=qh fun W (hMW:MaxL W)=>parse_any t (by omega) W hMW
 unfold GotG at PX;rw [hpx] at PX;simp only at PX;rw [show (tC ⟨pk,pt,pn,pl,pc⟩).toArray=#[.int .i64 pk,.string ⟨pt.toArray⟩,.int .i64 pn,.int .i64 pl,.int .i64 pc] from rfl] at PX;clear ht hpx;go_wp2_with (go_at_call 10;fail)
 with_reducible refine (PX.out _ (MX.out.below B0.out)).mono ?_
 rintro e w1 ⟨⟨n1,⟨VA1,vl1,vc1⟩,⟨SA1,sl1,sc1⟩⟩,rfl,hp,hb⟩;have B1:=btr B0 hb;clear hb B0 PX;simp only [gC,sv,Sl.v];go_upto_region 5 with (fail)
 obtain ⟨x2,_,hb2,hz2⟩:=boxes2 (Below.refl ((w1.alloc (.cells #[.string ⟨n1.toArray⟩,.slice VA1 vl1 vc1,.slice SA1 sl1 sc1] 25)).alloc (.cells #[.int .i64 pk,.string ⟨pt.toArray⟩,.int .i64 pn,.int .i64 pl,.int .i64 pc] 34)).heap.size ((w1.alloc (.cells #[.string ⟨n1.toArray⟩,.slice VA1 vl1 vc1,.slice SA1 sl1 sc1] 25)).alloc (.cells #[.int .i64 pk,.string ⟨pt.toArray⟩,.int .i64 pn,.int .i64 pl,.int .i64 pc] 34)));have hlt:w1.heap.size<((w1.alloc (.cells #[.string ⟨n1.toArray⟩,.slice VA1 vl1 vc1,.slice SA1 sl1 sc1] 25)).alloc (.cells #[.int .i64 pk,.string ⟨pt.toArray⟩,.int .i64 pn,.int .i64 pl,.int .i64 pc] 34)).heap.size:=by simp;omega
 have hp2:=hp.below hb2 hb2.size;clear hp;have B2:=btr B1 hb2;clear hb2 hz2 B1;generalize ((w1.alloc (.cells #[.string ⟨n1.toArray⟩,.slice VA1 vl1 vc1,.slice SA1 sl1 sc1] 25)).alloc (.cells #[.int .i64 pk,.string ⟨pt.toArray⟩,.int .i64 pn,.int .i64 pl,.int .i64 pc] 34))=w2_ at *;generalize w1.heap.size=g1 at *;have P2:=qh hp2;have X2:=qh x2;have Z2:=qh hlt;clear hp2 x2 hlt;obtain ⟨g1_,g2_,g3_,g4_,g5_,g6_⟩:=HG.out;have SX:=qh fun W (hb:Below w.heap.size w W) h (hp:PgAt W W.heap.size P h)=>show_any (MX.out.below hb) (LX.out.below hb) hp g2_ g3_ (fun _=>g4_)
 rw [g5_] at SX;simp only [sv] at SX;have HG6:=qh g6_;clear g1_ g2_ g3_ g4_ g5_ g6_ HG;go_wp2_with (first|((with_reducible refine m_load X2.out 25 3 ?_ ?_ ?_ ?_ ?_ ?_);rfl;rfl;rfl;rfl;kernel_rfl)|(go_at_call 8;fail))
 refine (SX.out _ B2.out ⟨n1,⟨VA1,vl1,vc1⟩,⟨SA1,sl1,sc1⟩⟩ P2.out).mono ?_;rintro e w3 ⟨rfl,hb⟩;have B3:=btr B2 hb;have P3:=qh (P2.out.below hb hb.size);have X3:=qh (X2.out.below hb Z2.out);have Z3:=zbl Z2 hb;clear hb P2 X2 Z2 B2 SX;obtain ⟨k1_,k2_,k3_⟩:=HG6.out;have PY:=qh fun W (hMW:MaxL W)=>parse_any ⟨(pgS P).toArray⟩ (by show (pgS P).toArray.size≤16384;rw [List.size_toArray];exact k1_) W hMW
 unfold GotG at PY;rw [show (⟨(pgS P).toArray⟩:ByteArray).data.toList=pgS P from rfl,k2_] at PY;simp only at PY;rw [show (tC ⟨qk,qt,qn,ql,qc⟩).toArray=#[.int .i64 qk,.string ⟨qt.toArray⟩,.int .i64 qn,.int .i64 ql,.int .i64 qc] from rfl] at PY;have HG7:=qh k3_;clear k1_ k2_ k3_ HG6;generalize (⟨(pgS P).toArray⟩:ByteArray)=xs at *;go_wp2_with (go_at_call 10;fail)
 with_reducible refine (PY.out _ (MX.out.below B3.out)).mono ?_
 rintro e w4 ⟨⟨n4,⟨VA4,vl4,vc4⟩,⟨SA4,sl4,sc4⟩⟩,rfl,hq,hb⟩;have B4:=btr B3 hb;have P4:=qh (P3.out.below hb hb.size);have X4:=qh (X3.out.below hb Z3.out);have Z4:=zbl Z3 hb;clear hb P3 X3 Z3 B3 PY;simp only [gC,sv,Sl.v];go_upto_region 11 with (fail)
 obtain ⟨x5,_,hb5,hz5⟩:=boxes2 (Below.refl ((w4.alloc (.cells #[.string ⟨n4.toArray⟩,.slice VA4 vl4 vc4,.slice SA4 sl4 sc4] 25)).alloc (.cells #[.int .i64 qk,.string ⟨qt.toArray⟩,.int .i64 qn,.int .i64 ql,.int .i64 qc] 34)).heap.size ((w4.alloc (.cells #[.string ⟨n4.toArray⟩,.slice VA4 vl4 vc4,.slice SA4 sl4 sc4] 25)).alloc (.cells #[.int .i64 qk,.string ⟨qt.toArray⟩,.int .i64 qn,.int .i64 ql,.int .i64 qc] 34)));have hlt:w4.heap.size<((w4.alloc (.cells #[.string ⟨n4.toArray⟩,.slice VA4 vl4 vc4,.slice SA4 sl4 sc4] 25)).alloc (.cells #[.int .i64 qk,.string ⟨qt.toArray⟩,.int .i64 qn,.int .i64 ql,.int .i64 qc] 34)).heap.size:=by simp;omega
 have hq2:=hq.below hb5 hb5.size;clear hq;have B5:=btr B4 hb5;have P5:=qh (P4.out.below hb5 hb5.size);have X5:=qh (X4.out.below hb5 Z4.out);have Z5:=zbl Z4 hb5;clear hb5 hz5 B4 P4 X4 Z4;generalize ((w4.alloc (.cells #[.string ⟨n4.toArray⟩,.slice VA4 vl4 vc4,.slice SA4 sl4 sc4] 25)).alloc (.cells #[.int .i64 qk,.string ⟨qt.toArray⟩,.int .i64 qn,.int .i64 ql,.int .i64 qc] 34))=w5 at *;generalize w4.heap.size=g4 at *;have Q5:=qh hq2;have Y5:=qh x5;have Y5lt:=qh hlt;clear hq2 x5 hlt;go_wp2_with fail
 go_ret
 exact ⟨rfl,B5.out⟩
theorem read_same (s:ByteArray) (w:World) (hs:s.size≤maxLen) (hM:MaxL w) (hL:Laid w) {P:Pg} {pk pn:Int} {pt:Str} {pl pc:Nat} {Q:Pg} {qk qn:Int} {qt:Str} {ql qc:Nat} (hpx:parse (cutT s).data.toList=(P,0,⟨pk,pt,pn,pl,pc⟩)) (hg:pgB P=true∧inP P∧wsS P.body≤big∧(pgS P).length≤lim∧showP P=(pgS P,0)∧(pgS P).length≤16384∧parse (pgS P)=(Q,0,⟨qk,qt,qn,ql,qc⟩)∧inP Q∧wsS Q.body≤big∧(pgS Q).length≤lim∧showP Q=(pgS P,0)∧pgSame P Q=true):Calls Tryz.prog 5 #[.string s] w fun e w'=>e=.returned (.bool true)∧Below w.heap.size w w':=by
 have HK:=qh (awake_any w hM hL);have MX:=qh hM;have LX:=qh hL;have ht:(cutT s).size≤1500:=cutT_le s;unfold cutT at ht hpx;have hs2:(s.size:Int)≤9223372036854775807:=by unfold maxLen at hs;omega
 clear hs hM hL;have HP:=qh hpx;have HG:=qh hg;clear hg hpx;go_enter Tryz.func5,Tryz.ntmps5
 go_wp2_with (go_at_call 6;fail)
 refine (HK.out).mono ?_;rintro e w0 ⟨rfl,hb⟩;have B0:=qh hb;clear hb HK;go_upto_region 4 with (fail)
 have hpx:=HP.out;clear HP;generalize s.extract 0 (min (s.size:Int) 1500).toNat=t at *;clear hs2;have PX:=qh fun W (hMW:MaxL W)=>parse_any t (by omega) W hMW
 unfold GotG at PX;rw [hpx] at PX;simp only at PX;rw [show (tC ⟨pk,pt,pn,pl,pc⟩).toArray=#[.int .i64 pk,.string ⟨pt.toArray⟩,.int .i64 pn,.int .i64 pl,.int .i64 pc] from rfl] at PX;clear ht hpx;go_wp2_with (go_at_call 10;fail)
 with_reducible refine (PX.out _ (MX.out.below B0.out)).mono ?_
 rintro e w1 ⟨⟨n1,⟨VA1,vl1,vc1⟩,⟨SA1,sl1,sc1⟩⟩,rfl,hp,hb⟩;have B1:=btr B0 hb;clear hb B0 PX;simp only [gC,sv,Sl.v];go_upto_region 5 with (fail)
 obtain ⟨x2,_,hb2,hz2⟩:=boxes2 (Below.refl ((w1.alloc (.cells #[.string ⟨n1.toArray⟩,.slice VA1 vl1 vc1,.slice SA1 sl1 sc1] 25)).alloc (.cells #[.int .i64 pk,.string ⟨pt.toArray⟩,.int .i64 pn,.int .i64 pl,.int .i64 pc] 34)).heap.size ((w1.alloc (.cells #[.string ⟨n1.toArray⟩,.slice VA1 vl1 vc1,.slice SA1 sl1 sc1] 25)).alloc (.cells #[.int .i64 pk,.string ⟨pt.toArray⟩,.int .i64 pn,.int .i64 pl,.int .i64 pc] 34)));have hlt:w1.heap.size<((w1.alloc (.cells #[.string ⟨n1.toArray⟩,.slice VA1 vl1 vc1,.slice SA1 sl1 sc1] 25)).alloc (.cells #[.int .i64 pk,.string ⟨pt.toArray⟩,.int .i64 pn,.int .i64 pl,.int .i64 pc] 34)).heap.size:=by simp;omega
 have hp2:=hp.below hb2 hb2.size;clear hp;have B2:=btr B1 hb2;clear hb2 hz2 B1;generalize ((w1.alloc (.cells #[.string ⟨n1.toArray⟩,.slice VA1 vl1 vc1,.slice SA1 sl1 sc1] 25)).alloc (.cells #[.int .i64 pk,.string ⟨pt.toArray⟩,.int .i64 pn,.int .i64 pl,.int .i64 pc] 34))=w2_ at *;generalize w1.heap.size=g1 at *;have P2:=qh hp2;have X2:=qh x2;have Z2:=qh hlt;clear hp2 x2 hlt;obtain ⟨g1_,g2_,g3_,g4_,g5_,g6_⟩:=HG.out;have SX:=qh fun W (hb:Below w.heap.size w W) h (hp:PgAt W W.heap.size P h)=>show_any (MX.out.below hb) (LX.out.below hb) hp g2_ g3_ (fun _=>g4_)
 rw [g5_] at SX;simp only [sv] at SX;have HG6:=qh g6_;clear g1_ g2_ g3_ g4_ g5_ g6_ HG;go_wp2_with (first|((with_reducible refine m_load X2.out 25 3 ?_ ?_ ?_ ?_ ?_ ?_);rfl;rfl;rfl;rfl;kernel_rfl)|(go_at_call 8;fail))
 refine (SX.out _ B2.out ⟨n1,⟨VA1,vl1,vc1⟩,⟨SA1,sl1,sc1⟩⟩ P2.out).mono ?_;rintro e w3 ⟨rfl,hb⟩;have B3:=btr B2 hb;have P3:=qh (P2.out.below hb hb.size);have X3:=qh (X2.out.below hb Z2.out);have Z3:=zbl Z2 hb;clear hb P2 X2 Z2 B2 SX;obtain ⟨k1_,k2_,k3_⟩:=HG6.out;have PY:=qh fun W (hMW:MaxL W)=>parse_any ⟨(pgS P).toArray⟩ (by show (pgS P).toArray.size≤16384;rw [List.size_toArray];exact k1_) W hMW
 unfold GotG at PY;rw [show (⟨(pgS P).toArray⟩:ByteArray).data.toList=pgS P from rfl,k2_] at PY;simp only at PY;rw [show (tC ⟨qk,qt,qn,ql,qc⟩).toArray=#[.int .i64 qk,.string ⟨qt.toArray⟩,.int .i64 qn,.int .i64 ql,.int .i64 qc] from rfl] at PY;have HG7:=qh k3_;clear k1_ k2_ k3_ HG6;have HX0:∃ xs,(⟨(pgS P).toArray⟩:ByteArray)=xs:=⟨_,rfl⟩;obtain ⟨xs,hxs⟩:=HX0;rw [hxs] at PY ⊢;have HX:=qh hxs;clear hxs;go_wp2_with (go_at_call 10;fail)
 with_reducible refine (PY.out _ (MX.out.below B3.out)).mono ?_
 rintro e w4 ⟨⟨n4,⟨VA4,vl4,vc4⟩,⟨SA4,sl4,sc4⟩⟩,rfl,hq,hb⟩;have B4:=btr B3 hb;have P4:=qh (P3.out.below hb hb.size);have X4:=qh (X3.out.below hb Z3.out);have Z4:=zbl Z3 hb;clear hb P3 X3 Z3 B3 PY;simp only [gC,sv,Sl.v];go_upto_region 11 with (fail)
 obtain ⟨x5,_,hb5,hz5⟩:=boxes2 (Below.refl ((w4.alloc (.cells #[.string ⟨n4.toArray⟩,.slice VA4 vl4 vc4,.slice SA4 sl4 sc4] 25)).alloc (.cells #[.int .i64 qk,.string ⟨qt.toArray⟩,.int .i64 qn,.int .i64 ql,.int .i64 qc] 34)).heap.size ((w4.alloc (.cells #[.string ⟨n4.toArray⟩,.slice VA4 vl4 vc4,.slice SA4 sl4 sc4] 25)).alloc (.cells #[.int .i64 qk,.string ⟨qt.toArray⟩,.int .i64 qn,.int .i64 ql,.int .i64 qc] 34)));have hlt:w4.heap.size<((w4.alloc (.cells #[.string ⟨n4.toArray⟩,.slice VA4 vl4 vc4,.slice SA4 sl4 sc4] 25)).alloc (.cells #[.int .i64 qk,.string ⟨qt.toArray⟩,.int .i64 qn,.int .i64 ql,.int .i64 qc] 34)).heap.size:=by simp;omega
 have hq2:=hq.below hb5 hb5.size;clear hq;have B5:=btr B4 hb5;have P5:=qh (P4.out.below hb5 hb5.size);have X5:=qh (X4.out.below hb5 Z4.out);have Z5:=zbl Z4 hb5;clear hb5 hz5 B4 P4 X4 Z4;generalize ((w4.alloc (.cells #[.string ⟨n4.toArray⟩,.slice VA4 vl4 vc4,.slice SA4 sl4 sc4] 25)).alloc (.cells #[.int .i64 qk,.string ⟨qt.toArray⟩,.int .i64 qn,.int .i64 ql,.int .i64 qc] 34))=w5 at *;generalize w4.heap.size=g4 at *;have Q5:=qh hq2;have Y5:=qh x5;have Y5lt:=qh hlt;clear hq2 x5 hlt;obtain ⟨j1,j2,j3,j4,j5⟩:=HG7.out;have SY:=qh fun W (hb:Below w.heap.size w W) h (hp:PgAt W W.heap.size Q h)=>show_any (MX.out.below hb) (LX.out.below hb) hp j1 j2 (fun _=>j3)
 rw [j4] at SY;simp only [sv] at SY;have SAM:=qh fun h h' W hp hq=>same_any P Q h h' W hp hq
 have RSM:=qh fun h h' W hp hq=>rsame_any P Q h h' W hp hq
 rw [j5] at SAM RSM;rw [HX.out] at SY;clear j1 j2 j3 j4 j5 HG7;go_wp2_with (first|((with_reducible refine m_load Y5.out 25 8 ?_ ?_ ?_ ?_ ?_ ?_);rfl;rfl;rfl;rfl;kernel_rfl)|(go_at_call 8;fail))
 refine (SY.out _ B5.out ⟨n4,⟨VA4,vl4,vc4⟩,⟨SA4,sl4,sc4⟩⟩ Q5.out).mono ?_;rintro e w6 ⟨rfl,hb⟩;have B6:=btr B5 hb;have P6:=qh (P5.out.below hb hb.size);have X6:=qh (X5.out.below hb Z5.out);have Z6:=zbl Z5 hb;have Q6:=qh (Q5.out.below hb hb.size);have Y6:=qh (Y5.out.below hb Y5lt.out);have Y6lt:=qh (Nat.lt_of_lt_of_le Y5lt.out hb.size);clear hb P5 X5 Z5 B5 Q5 Y5 Y5lt SY;go_wp2_with (first|((with_reducible refine m_load X6.out 25 3 ?_ ?_ ?_ ?_ ?_ ?_);rfl;rfl;rfl;rfl;kernel_rfl)|((with_reducible refine m_load Y6.out 25 8 ?_ ?_ ?_ ?_ ?_ ?_);rfl;rfl;rfl;rfl;kernel_rfl)|(go_at_call 12;fail))
 refine (SAM.out ⟨n1,⟨VA1,vl1,vc1⟩,⟨SA1,sl1,sc1⟩⟩ ⟨n4,⟨VA4,vl4,vc4⟩,⟨SA4,sl4,sc4⟩⟩ _ P6.out Q6.out).mono ?_;rintro e w7 ⟨rfl,hb⟩;have B7:=btr B6 hb;have P7:=qh (P6.out.below hb hb.size);have X7:=qh (X6.out.below hb Z6.out);have Z7:=zbl Z6 hb;have Q7:=qh (Q6.out.below hb hb.size);have Y7:=qh (Y6.out.below hb Y6lt.out);have Y7lt:=qh (Nat.lt_of_lt_of_le Y6lt.out hb.size);clear hb P6 X6 Z6 B6 Q6 Y6 Y6lt SAM;go_wp2_with (first|((with_reducible refine m_load X7.out 25 3 ?_ ?_ ?_ ?_ ?_ ?_);rfl;rfl;rfl;rfl;kernel_rfl)|((with_reducible refine m_load Y7.out 25 8 ?_ ?_ ?_ ?_ ?_ ?_);rfl;rfl;rfl;rfl;kernel_rfl)|(go_at_call 13;fail))
 refine (RSM.out ⟨n1,⟨VA1,vl1,vc1⟩,⟨SA1,sl1,sc1⟩⟩ ⟨n4,⟨VA4,vl4,vc4⟩,⟨SA4,sl4,sc4⟩⟩ _ P7.out Q7.out).mono ?_;rintro e w8 ⟨rfl,hb⟩;have B8:=btr B7 hb;clear hb P7 X7 Z7 B7 Q7 Y7 Y7lt RSM;go_wp2_with fail
 go_ret
 exact ⟨rfl,B8.out⟩
theorem read_walk (s:ByteArray) (w:World) (hs:s.size≤maxLen) (hM:MaxL w) (hL:Laid w):Calls Tryz.prog 5 #[.string s] w fun e w'=>e=.returned (.bool true)∧Below w.heap.size w w':=by
 obtain ⟨⟨P,er,⟨pk,pt,pn,pl,pc⟩⟩,hpx⟩:∃ R,parse (cutT s).data.toList=R:=⟨_,rfl⟩;by_cases h0:er=0
 ·subst h0
  have hf:=parse_fit (s:=(cutT s).data.toList) (by rw [hpx]);rw [hpx] at hf;obtain ⟨hb,hi,hw⟩:=hf;simp only at hb hi hw;have hsz:(cutT s).data.toList.length≤1500:=by rw [size_len];exact cutT_le s
  have hlw:=pg_w hb hi;have hw1:wsS P.body≤big:=by unfold big;omega
  have hl1:(pgS P).length≤lim:=by unfold lim;omega
  by_cases hl:16384<(pgS P).length
  ·exact read_long s w hs hM hL hpx ⟨hb,hi,hw1,hl1,by unfold showP;rw [if_pos hb,if_pos hl],trivial⟩
  ·have hl':(pgS P).length≤16384:=by omega
   have hR:showP P=(pgS P,0):=by unfold showP;rw [if_pos hb,if_neg hl]
   obtain ⟨⟨Q,f,⟨qk,qt,qn,ql,qc⟩⟩,hqx⟩:∃ R,parse (pgS P)=R:=⟨_,rfl⟩;have hK:=parse_pg hb hi hl';rw [hqx] at hK;simp only at hK;rcases hK with ⟨rfl,hK⟩|⟨rfl,_⟩
   ·have hf2:=parse_fit (s:=pgS P) (by rw [hqx])
    rw [hqx] at hf2;obtain ⟨hb2,hi2,hw2⟩:=hf2;simp only at hb2 hi2 hw2;have e:=pgS_same hK;exact read_same s w hs hM hL hpx ⟨hb,hi,hw1,hl1,hR,hl',hqx,hi2,by unfold big;omega,by rw [←e];exact hl1,by unfold showP;rw [if_pos hb2,←e,if_neg hl],hK⟩
   ·exact read_deep s w hs hM hL hpx ⟨hb,hi,hw1,hl1,hR,hl',hqx,trivial⟩
 ·exact read_no s w hs hM hL (er:=er) (by simpa using h0) hpx
end sh
namespace showRead
open ChangeShapes WideShapes ChangeAt RowKit
theorem own:ownKnob Tryz.prog.godebug=none:=by kernel_rfl
theorem laidOut:laidOutB Tryz.prog=true:=by kernel_rfl
theorem of_laid {W:World} (h:laidMetH Tryz.prog Rows.showReadRow.laid W):Laid W:=by
 have h : laidMetH Tryz.prog [("math/bits.deBruijn32tab", Rows.laid_math_bits_deBruijn32tab), ("math/bits.deBruijn64tab", Rows.laid_math_bits_deBruijn64tab), ("internal/strconv.uint64pow10", Rows.laid_internal_strconv_uint64pow10)] W := h;rw [MakeChecks.laidMetH_plain _ _ _ (by kernel_rfl)] at h;obtain ⟨ps, ⟨g0, t0, cs0, f0, p0, q0, hg0, ht0, hv0, hd0, ⟨g1, t1, cs1, f1, p1, q1, hg1, ht1, hv1, hd1, ⟨g2, t2, cs2, f2, p2, q2, hg2, ht2, hv2, hd2, _, _⟩, _⟩, _⟩, _, _⟩ := h;obtain rfl := Option.some.inj (gPow.symm.trans hg2);obtain rfl := Option.some.inj (tPow.symm.trans ht2);rw [dPow] at hd2;unfold Laid Lib.TabIs;rw [hv2, ← Lib.cells_of_tab Tryz.underlying193 Tryz.underlying88 (by kernel_rfl) (by kernel_rfl) hd2]
theorem contract (H:Type) (enc:TypeId×Value→H) (W:World) (base:Nat) (args:Array Value) (ds gs:List (DataW H)) (before:List MemPlace)
  (hval0:∀ (j:Nat) t v,Tryz.f5.params[j]?=some t→args[j]?=some v→Value.okWide Tryz.prog W .any base t v)
  (hW:DataW.Whole enc Tryz.prog Tryz.f5.params.toList Rows.showReadSpec.vars false W args.toList ds gs before) (hL:Laid W) (hM:tk.MaxL W) :
  Calls Tryz.prog 5 args W fun e W'=>∃ v,e=.returned v∧Rows.showReadSpec.post enc Tryz.prog Tryz.f5 false true false false W args v W':=by
 have hval:∀ (j:Nat) t v,Tryz.f5.params[j]?=some t→args[j]?=some v→Value.okWide Tryz.prog W .any base t v:=hval0;have hW':=hW;obtain ⟨p,q,hA0,hV,rfl,hfz,hnd⟩:=hW;have hA:DataW.TrodAll enc Tryz.prog W 0 (fun _=>true) true Tryz.f5.params.toList args.toList ds p:=hA0;rw [Tryz.params5] at hA hval;obtain ⟨v0,vs0,d0,ds0,p0,q0,hargs,rfl,rfl,h0,r0⟩:=trodAll_cons hA;obtain ⟨rfl,rfl,rfl⟩:=trodAll_nil r0;obtain rfl:args=#[v0]:=by cases args;simp_all
 obtain ⟨rfl,rfl⟩:=trodVars_none hV;obtain ⟨a0,rfl,rfl,rfl,w0⟩:=Go.ChangeMaps.open_string Tryz.underlying9 (hval 0 9 v0 rfl rfl) h0;clear hA0 hval0;refine (sh.read_walk a0 W w0 hM hL).mono fun e W' ⟨he,bel⟩=>?_
 subst he;exact ⟨_,rfl,_,_,_,[],_,[],hW',trodAll_mk1 (shut_bool Tryz.underlying4 _),(trodAll_cons_mk (Go.ChangeMaps.shut_string Tryz.underlying9 w0) trodAll_mk0),rfl,bel.frame _,fun h=>by cases h⟩
theorem door_met (os:Os) (args:Array Value):laidMetH Tryz.prog Rows.showReadRow.laid ((World.doorLaid Tryz.prog 400 os).forCall (fun _ _=>0) ⟨#[],args,[]⟩).memory:=
 laidMetH_of_parts3 (fuel:=8) (laidMet_of_run' 8 (by kernel_rfl) (by kernel_rfl)) (by kernel_rfl) (by kernel_rfl)
theorem lifted (os:Os) (started:os.Started) (H:Type) (enc:TypeId×Value→H) (F:Stop.Interp) :
  ReturnsInHanded {} Tryz.checked os 5 .any ((OpenSpec.ofChange Rows.showReadSpec).preRow enc Tryz.prog Tryz.f5 Rows.showReadRow.domain false Rows.showReadRow.laid) (((OpenSpec.ofChange Rows.showReadSpec).at F).post enc Tryz.prog Tryz.f5 false true false false):=by
 refine returnsInHanded_of_row (C:=Tryz.checked) (s:=OpenSpec.ofChange Rows.showReadSpec) own started (by kernel_rfl) Tryz.func5
  (witness_row_at (enc:=enc) (C:=Tryz.checked) false (World.doorLaid Tryz.prog 400 os) #[.string ⟨#[]⟩] rfl (by kernel_rfl) (by kernel_rfl) (by kernel_rfl)
   (OpenSpec.preRow_of_B rfl 8 (by kernel_rfl) (by kernel_rfl) (door_met os _))) ?_
 intro W base args ds gs before hval hW _ _ _ hL hsh _;exact contract H enc W base args ds gs before hval hW (of_laid hL) (tk.maxl_of hsh)
theorem over:Rows.showReadRow.holds Tryz.pinned (OpenSpec.ofChange Rows.showReadSpec):=
 OpenClaim.holds_of_cond 5 Tryz.f5 rfl rfl rfl rfl rfl rfl rfl ⟨rfl,rfl,rfl,rfl,rfl⟩ rfl rfl rfl rfl rfl (by kernel_rfl) Tryz.func5 (by kernel_rfl)
  (of_decide_eq_true (by kernel_rfl)) (by unfold Func.isWrapper;first|(rw [if_pos (by decide +kernel)];kernel_rfl)|(rw [if_neg (by decide +kernel)];exact ⟨rfl,rfl⟩))
  (fun os started H enc _ F=>by rw [OpenClaim.pre_eq_preRow];exact lifted os started H enc F)
theorem proved:Rows.ShowReadCardSaid:=
 Claim7.holds_tied_plain_at .later [] _ _ _ _ over (fun _ h=>by cases h) (by kernel_rfl) (fun _ h=>by cases h) showRead_row_tie rfl ⟨rfl,rfl⟩ (by kernel_rfl) rfl
  (fun f fn hf hfn=>by
   obtain rfl : f = 5 := Option.some.inj ((show Tryz.prog.funcNamed "servitor/servitorlaw19.ShowRead" = some 5 by kernel_rfl).symm.trans hf) |>.symm;obtain rfl : fn = Tryz.f5 := (Option.some.inj (Tryz.func5.symm.trans hfn)).symm;exact ⟨by kernel_rfl, fun j t ht => by
    rw [Tryz.params5] at ht;have hm:t∈[9]:=by simpa using Array.mem_of_getElem? ht
    have hall:([9].all fun u=>!Tryz.prog.wantsStandIn u)=true:=by kernel_rfl
    exact (show Tryz.prog.wantsStandIn t=false by simpa using List.all_eq_true.1 hall t hm)⟩)
  (by kernel_rfl)
end showRead
end Go.Proofs.YtdefgghhkknnpaaGreatDoor

/- The library's slices.Equal and slices.EqualFunc, as the landed Same calls them: whether two rows are the same, element by element. No condition but what each line says. -/
import Derived.Test.YtdefgghhkknnpaaGreatDoorE07
set_option linter.unusedVariables false
set_option linter.unusedSimpArgs false
set_option maxRecDepth 100000
set_option maxHeartbeats 40000000
namespace Go.Proofs.YtdefgghhkknnpaaGreatDoor
namespace tr
open ChangeShapes WideShapes ChangeAt RowKit k rr tk
theorem eq_drop {α:Type} [BEq α] {L M:List α} {i:Nat} {x y:α} (h1:L[i]?=some x) (h2:M[i]?=some y):(L.drop i==M.drop i)=(x==y&&L.drop (i+1)==M.drop (i+1)):=by
 obtain ⟨a1,a2⟩:=List.getElem?_eq_some_iff.1 h1;obtain ⟨b1,b2⟩:=List.getElem?_eq_some_iff.1 h2;rw [List.drop_eq_getElem_cons a1,List.drop_eq_getElem_cons b1,List.cons_beq_cons,a2,b2]
theorem eq_len {α:Type} [BEq α] [LawfulBEq α] {L M:List α} (h:L.length≠M.length):(L==M)=false:=by
 rw [beq_eq_false_iff_ne];intro e;exact h (by rw [e])
theorem eq_end {α:Type} [BEq α] {L M:List α} {n:Nat} (h1:L.length=n) (h2:M.length=n):(L.drop n==M.drop n)=true:=by
 rw [List.drop_of_length_le (by omega),List.drop_of_length_le (by omega)];rfl
theorem ints_eq (La Lb:List Int) (sa sb:Sl) (w:World) (h1:RS iC 1 w w.heap.size sa La) (h2:RS iC 1 w w.heap.size sb Lb) :
  Calls Tryz.prog 83 #[sa.v,sb.v] w fun e w'=>e=.returned (.bool (La==Lb))∧Below w.heap.size w w':=by
 suffices H:Calls Tryz.prog 83 #[sa.v,sb.v] w fun e w'=>e=.returned (.bool (La==Lb))∧∃ n,w'=w.drewN n from
  H.mono fun e w' h=>⟨h.1,by obtain ⟨_,n,rfl⟩:=h;exact below_drawn (Below.refl _ _) n⟩
 obtain ⟨A,n,cap⟩:=sa;obtain ⟨A',n',cap'⟩:=sb;have h1:Rd iC 1 w w.heap.size A n cap La:=h1;have h2:Rd iC 1 w w.heap.size A' n' cap' Lb:=h2;simp only [Sl.v];have e1:=h1.1;have e2:=h2.1;have hnl:=h1.len_le;have hnl':=h2.len_le;by_cases hlen:n=n'
 rotate_left
 ·have hz:((n:Int) != n')=true:=by rw [bne_iff_ne];omega
  have HR:=qh (eq_len (L:=La) (M:=Lb) (by omega));clear h1 h2;go_enter Tryz.func83,Tryz.ntmps83
  go_wp2;go_ret
  exact ⟨ret_bool HR.out.symm,0,rfl⟩
 subst hlen;have R1:=qh h1;have R2:=qh h2;obtain ⟨R,hR⟩:∃ R,(La==Lb)=R:=⟨_,rfl⟩;have HR:=qh hR;have L1:=qh e1;have L2:=qh e2;rw [hR];clear h1 h2 e1 e2 hR;go_enter Tryz.func83,Tryz.ntmps83
 go_upto_region 4 with (fail)
 go_loopw [13] (fun s13 wr=>∃ q j:Nat,q≤n∧s13=.int .i64 q∧(La.drop q==Lb.drop q)=R∧wr=w.drewN j) (fun i _=>n-(intOf i).toNat)
 case atStart=>exact ⟨0,0,Nat.zero_le _,rfl,HR.out,rfl⟩
 case round=>
  obtain ⟨q,j,hq,rfl,hs,rfl⟩:=hrel;by_cases hlt:q<n
  ·obtain ⟨b1,o1,x,rfl,hb1,hp,hc1⟩:=R1.out.at hlt
   obtain ⟨b2,o2,y,rfl,hb2,hp',hc2⟩:=R2.out.at hlt;rw [eq_drop hp hp'] at hs;have a0:=hc1 0 _ rfl;have d0:=hc2 0 _ rfl;rw [Nat.add_zero,Nat.mul_one] at a0 d0;obtain ⟨u,hu⟩:∃ u,(x==y)=u:=⟨_,rfl⟩;have v:(x != y)=!u:=by rw [bne,hu]
   rw [hu] at hs;have HS:=qh hs;clear hs hu hc1 hc2 hp hp' hb1 hb2;go_upto_region 6 with (fail)
   go_quiet (fail)
   rename_i nq;have w1:IntKind.i64.wrap ((q:Int)+1)=((q+1:Nat):Int):=by rw [IntKind.wrap_i64];omega
   cases u
   ·rw [Bool.not_false] at v
    have HR2:=qh (show R=false by rw [←HS.out];simp);go_wp2_with fail
    go_ret
    exact ⟨ret_bool HR2.out.symm,j+nq,by simp [World.drewN,Nat.add_assoc]⟩
   ·rw [Bool.not_true] at v
    have HS2:=qh (show (La.drop (q+1)==Lb.drop (q+1))=R by rw [←HS.out];simp);go_wp2_with fail
    go_roundw
    case rel=>exact ⟨q+1,j+nq,by omega,by go_num,HS2.out,by simp [World.drewN]⟩
    case measure=>simp [intOf];omega
  ·obtain rfl:q=n:=by omega
   have hz:¬ (q:Int)<q:=by omega
   rw [eq_end L1.out L2.out] at hs;have HS:=qh hs;clear hs;go_wp2_with fail
   go_ret
   exact ⟨ret_bool HS.out,_,rfl⟩
theorem strs_eq (La Lb:List Str) (sa sb:Sl) (w:World) (h1:RS tC1 1 w w.heap.size sa La) (h2:RS tC1 1 w w.heap.size sb Lb) :
  Calls Tryz.prog 84 #[sa.v,sb.v] w fun e w'=>e=.returned (.bool (La==Lb))∧Below w.heap.size w w':=by
 suffices H:Calls Tryz.prog 84 #[sa.v,sb.v] w fun e w'=>e=.returned (.bool (La==Lb))∧∃ n,w'=w.drewN n from
  H.mono fun e w' h=>⟨h.1,by obtain ⟨_,n,rfl⟩:=h;exact below_drawn (Below.refl _ _) n⟩
 obtain ⟨A,n,cap⟩:=sa;obtain ⟨A',n',cap'⟩:=sb;have h1:Rd tC1 1 w w.heap.size A n cap La:=h1;have h2:Rd tC1 1 w w.heap.size A' n' cap' Lb:=h2;simp only [Sl.v];have e1:=h1.1;have e2:=h2.1;have hnl:=h1.len_le;have hnl':=h2.len_le;by_cases hlen:n=n'
 rotate_left
 ·have hz:((n:Int) != n')=true:=by rw [bne_iff_ne];omega
  have HR:=qh (eq_len (L:=La) (M:=Lb) (by omega));clear h1 h2;go_enter Tryz.func84,Tryz.ntmps84
  go_wp2;go_ret
  exact ⟨ret_bool HR.out.symm,0,rfl⟩
 subst hlen;have R1:=qh h1;have R2:=qh h2;obtain ⟨R,hR⟩:∃ R,(La==Lb)=R:=⟨_,rfl⟩;have HR:=qh hR;have L1:=qh e1;have L2:=qh e2;rw [hR];clear h1 h2 e1 e2 hR;go_enter Tryz.func84,Tryz.ntmps84
 go_upto_region 4 with (fail)
 go_loopw [13] (fun s13 wr=>∃ q j:Nat,q≤n∧s13=.int .i64 q∧(La.drop q==Lb.drop q)=R∧wr=w.drewN j) (fun i _=>n-(intOf i).toNat)
 case atStart=>exact ⟨0,0,Nat.zero_le _,rfl,HR.out,rfl⟩
 case round=>
  obtain ⟨q,j,hq,rfl,hs,rfl⟩:=hrel;by_cases hlt:q<n
  ·obtain ⟨b1,o1,x,rfl,hb1,hp,hc1⟩:=R1.out.at hlt
   obtain ⟨b2,o2,y,rfl,hb2,hp',hc2⟩:=R2.out.at hlt;rw [eq_drop hp hp'] at hs;have a0:=hc1 0 _ rfl;have d0:=hc2 0 _ rfl;rw [Nat.add_zero,Nat.mul_one] at a0 d0;obtain ⟨u,hu⟩:∃ u,(x==y)=u:=⟨_,rfl⟩;have v0:=sv_eq x y;unfold sv at a0 d0;obtain ⟨X,hX⟩:∃ X,(⟨x.toArray⟩:ByteArray)=X:=⟨_,rfl⟩;obtain ⟨Y,hY⟩:∃ Y,(⟨y.toArray⟩:ByteArray)=Y:=⟨_,rfl⟩;rw [hX,hY] at v0;rw [hX] at a0;rw [hY] at d0;have v:(X.toList==Y.toList)=u:=by rw [←hX,←hY,ByteArray.toList_eq,ByteArray.toList_eq];exact hu
   clear hX hY v0;rw [hu] at hs;have HS:=qh hs;clear hs hu hc1 hc2 hp hp' hb1 hb2;go_upto_region 6 with (fail)
   go_quiet (fail)
   rename_i nq;have w1:IntKind.i64.wrap ((q:Int)+1)=((q+1:Nat):Int):=by rw [IntKind.wrap_i64];omega
   cases u
   ·skip
    have HR2:=qh (show R=false by rw [←HS.out];simp);go_wp2_with fail
    go_ret
    exact ⟨ret_bool HR2.out.symm,j+nq,by simp [World.drewN,Nat.add_assoc]⟩
   ·skip
    have HS2:=qh (show (La.drop (q+1)==Lb.drop (q+1))=R by rw [←HS.out];simp);go_wp2_with fail
    go_roundw
    case rel=>exact ⟨q+1,j+nq,by omega,by go_num,HS2.out,by simp [World.drewN]⟩
    case measure=>simp [intOf];omega
  ·obtain rfl:q=n:=by omega
   have hz:¬ (q:Int)<q:=by omega
   rw [eq_end L1.out L2.out] at hs;have HS:=qh hs;clear hs;go_wp2_with fail
   go_ret
   exact ⟨ret_bool HS.out,_,rfl⟩
theorem range_below {w w':World} {b o B:Nat} {cs:List Value} (h:w.rangeAt b o cs) (hb:Below B w w') (hB:b<B):w'.rangeAt b o cs:=fun i v hv=>by
 have e:w'.heap[b]?=w.heap[b]?:=hb.block b hB;have:=h i v hv;unfold World.cell? at this ⊢;rw [e];exact this
theorem eqf_e {H H':List EH} {sa sb:Sl} {w:World} (h1:RS eC 6 w w.heap.size sa H) (h2:RS eC 6 w w.heap.size sb H') (D P:Nat→Bool) (R:Bool) (hR:sa.l=sb.l→D 0=R) (hne:sa.l≠sb.l→R=false) (hD:sa.l=sb.l→D sa.l=true)
  (hS:sa.l=sb.l→∀ i,i<sa.l→D i=(P i&&D (i+1)))
  (hC:sa.l=sb.l→∀ i x y,H[i]?=some x→H'[i]?=some y→∀ W,Below w.heap.size w W→Calls Tryz.prog 80 #[.agg (eC x).toArray,.agg (eC y).toArray] W fun e w'=>e=.returned (.bool (P i))∧Below W.heap.size W w') :
  Calls Tryz.prog 81 #[sa.v,sb.v,.func (.func 80) #[] #[]] w fun e w'=>e=.returned (.bool R)∧Below w.heap.size w w':=by
 obtain ⟨A,n,cap⟩:=sa;obtain ⟨A',n',cap'⟩:=sb;have h1:Rd eC 6 w w.heap.size A n cap H:=h1;have h2:Rd eC 6 w w.heap.size A' n' cap' H':=h2;simp only at hR hne hD hS hC;simp only [Sl.v];have hnl:=h1.len_le;have hnl':=h2.len_le;by_cases hlen:n=n'
 rotate_left
 ·have hz:((n:Int) != n')=true:=by rw [bne_iff_ne];omega
  have HR:=qh (hne hlen);clear h1 h2 hR hne hD hS hC;go_enter Tryz.func81,Tryz.ntmps81
  go_wp2;go_ret
  exact ⟨ret_bool HR.out.symm,Below.refl _ _⟩
 subst hlen;have R1:=qh h1;have R2:=qh h2;have HR:=qh (hR rfl);have HD:=qh (hD rfl);have HS:=qh (hS rfl);have HC:=qh (hC rfl);clear h1 h2 hR hne hD hS hC;go_enter Tryz.func81,Tryz.ntmps81
 go_upto_region 4 with (fail)
 go_loopw [17] (fun s17 wr=>∃ q:Nat,q≤n∧s17=.int .i64 q∧Below w.heap.size w wr∧D q=R) (fun i _=>n-(intOf i).toNat)
 case atStart=>exact ⟨0,Nat.zero_le _,rfl,Below.refl _ _,HR.out⟩
 case round=>
  obtain ⟨q,hq,rfl,hbw,hd⟩:=hrel;by_cases hlt:q<n
  ·have r1:Rd eC 6 wr wr.heap.size A n cap H:=(R1.out.below hbw).more hbw.size
   have r2:Rd eC 6 wr wr.heap.size A' n cap' H':=(R2.out.below hbw).more hbw.size;obtain ⟨b1,o1,x,rfl,hb1,hp,hc1⟩:=r1.at hlt;obtain ⟨b2,o2,y,rfl,hb2,hp',hc2⟩:=r2.at hlt;have CX:=qh (HC.out q x y hp hp');rw [HS.out q hlt] at hd;have BB:=qh hbw;obtain ⟨u,hu⟩:∃ u,P q=u:=⟨_,rfl⟩;rw [hu] at hd CX;have HU:=qh hd;clear hd hu hbw r1 r2 hp hp';have rg1:wr.rangeAt b1 (o1+q*6) (eC x):=hc1;have rg2:wr.rangeAt b2 (o2+q*6) (eC y):=hc2;go_upto_region 6 with (first|((with_reducible refine m_loadR rg1 44 20 ?_ ?_ ?_ ?_ ?_ ?_);rfl;rfl;rfl;rfl;kernel_rfl)|((with_reducible refine m_new 44 8 21 ?_ ?_ ?_ (eC x) ?_ ?_ ?_ ?_ (eC_one _) ?_);rfl;rfl;rfl;rfl;rfl;rfl;kernel_rfl;intro w3 hx3 hb3 hz3))
   have X8:=qh hx3;have rg2':=range_below rg2 hb3 hb2;have HB3:=qh hb3;have HZ3:=qh hz3;clear rg1 rg2 hx3 hb3 hz3;go_upto_region 7 with (first|((with_reducible refine m_loadR rg2' 44 24 ?_ ?_ ?_ ?_ ?_ ?_);rfl;rfl;rfl;rfl;kernel_rfl)|((with_reducible refine m_new 44 9 25 ?_ ?_ ?_ (eC y) ?_ ?_ ?_ ?_ (eC_one _) ?_);rfl;rfl;rfl;rfl;rfl;rfl;kernel_rfl;intro w4 hx4 hb4 hz4))
   have X9:=qh hx4;have X8':=qh (X8.out.below hb4 (by have:=HZ3.out;omega));have HB4:=btr HB3 hb4;clear rg2' hx4 hb4 hz4 X8 HB3 HZ3;go_wp2_with (first|((with_reducible refine m_load X8'.out 44 8 ?_ ?_ ?_ ?_ ?_ ?_);rfl;rfl;rfl;rfl;kernel_rfl)|((with_reducible refine m_load X9.out 44 9 ?_ ?_ ?_ ?_ ?_ ?_);rfl;rfl;rfl;rfl;kernel_rfl)|(go_at_call 80;fail))
   refine (CX.out w4 (BB.out.trans (HB4.out.mono BB.out.size))).mono ?_;rintro e w5 ⟨rfl,hb⟩;have HB5:=btr HB4 hb;clear hb X8' X9 HB4 CX;have w1:IntKind.i64.wrap ((q:Int)+1)=((q+1:Nat):Int):=by rw [IntKind.wrap_i64];omega
   cases u
   ·have HR2:=qh (show R=false by rw [←HU.out];simp)
    go_wp2_with fail
    go_ret
    exact ⟨ret_bool HR2.out.symm,BB.out.trans (HB5.out.mono BB.out.size)⟩
   ·have HS2:=qh (show D (q+1)=R by rw [←HU.out];simp)
    go_wp2_with fail
    go_roundw
    case rel=>exact ⟨q+1,by omega,by go_num,BB.out.trans (HB5.out.mono BB.out.size),HS2.out⟩
    case measure=>simp [intOf];omega
  ·obtain rfl:q=n:=by omega
   have hz:¬ (q:Int)<q:=by omega
   rw [HD.out] at hd;have HU:=qh hd;have BB:=qh hbw;clear hd hbw;go_wp2_with fail
   go_ret
   exact ⟨ret_bool HU.out,BB.out⟩
theorem eqf_s {H H':List SH} {sa sb:Sl} {w:World} (h1:RS sC 19 w w.heap.size sa H) (h2:RS sC 19 w w.heap.size sb H') (D P:Nat→Bool) (R:Bool) (hR:sa.l=sb.l→D 0=R) (hne:sa.l≠sb.l→R=false) (hD:sa.l=sb.l→D sa.l=true)
  (hS:sa.l=sb.l→∀ i,i<sa.l→D i=(P i&&D (i+1)))
  (hC:sa.l=sb.l→∀ i x y,H[i]?=some x→H'[i]?=some y→∀ W,Below w.heap.size w W→Calls Tryz.prog 52 #[.agg (sC x).toArray,.agg (sC y).toArray] W fun e w'=>e=.returned (.bool (P i))∧Below W.heap.size W w') :
  Calls Tryz.prog 51 #[sa.v,sb.v,.func (.func 52) #[] #[]] w fun e w'=>e=.returned (.bool R)∧Below w.heap.size w w':=by
 obtain ⟨A,n,cap⟩:=sa;obtain ⟨A',n',cap'⟩:=sb;have h1:Rd sC 19 w w.heap.size A n cap H:=h1;have h2:Rd sC 19 w w.heap.size A' n' cap' H':=h2;simp only at hR hne hD hS hC;simp only [Sl.v];have hnl:=h1.len_le;have hnl':=h2.len_le;by_cases hlen:n=n'
 rotate_left
 ·have hz:((n:Int) != n')=true:=by rw [bne_iff_ne];omega
  have HR:=qh (hne hlen);clear h1 h2 hR hne hD hS hC;go_enter Tryz.func51,Tryz.ntmps51
  go_wp2;go_ret
  exact ⟨ret_bool HR.out.symm,Below.refl _ _⟩
 subst hlen;have R1:=qh h1;have R2:=qh h2;have HR:=qh (hR rfl);have HD:=qh (hD rfl);have HS:=qh (hS rfl);have HC:=qh (hC rfl);clear h1 h2 hR hne hD hS hC;go_enter Tryz.func51,Tryz.ntmps51
 go_upto_region 4 with (fail)
 go_loopw [17] (fun s17 wr=>∃ q:Nat,q≤n∧s17=.int .i64 q∧Below w.heap.size w wr∧D q=R) (fun i _=>n-(intOf i).toNat)
 case atStart=>exact ⟨0,Nat.zero_le _,rfl,Below.refl _ _,HR.out⟩
 case round=>
  obtain ⟨q,hq,rfl,hbw,hd⟩:=hrel;by_cases hlt:q<n
  ·have r1:Rd sC 19 wr wr.heap.size A n cap H:=(R1.out.below hbw).more hbw.size
   have r2:Rd sC 19 wr wr.heap.size A' n cap' H':=(R2.out.below hbw).more hbw.size;obtain ⟨b1,o1,x,rfl,hb1,hp,hc1⟩:=r1.at hlt;obtain ⟨b2,o2,y,rfl,hb2,hp',hc2⟩:=r2.at hlt;have CX:=qh (HC.out q x y hp hp');rw [HS.out q hlt] at hd;have BB:=qh hbw;obtain ⟨u,hu⟩:∃ u,P q=u:=⟨_,rfl⟩;rw [hu] at hd CX;have HU:=qh hd;clear hd hu hbw r1 r2 hp hp';have rg1:wr.rangeAt b1 (o1+q*19) (sC x):=hc1;have rg2:wr.rangeAt b2 (o2+q*19) (sC y):=hc2;go_upto_region 6 with (first|((with_reducible refine m_loadR rg1 49 20 ?_ ?_ ?_ ?_ ?_ ?_);rfl;rfl;rfl;rfl;kernel_rfl)|((with_reducible refine m_new 49 8 21 ?_ ?_ ?_ (sC x) ?_ ?_ ?_ ?_ (sC_one _) ?_);rfl;rfl;rfl;rfl;rfl;rfl;kernel_rfl;intro w3 hx3 hb3 hz3))
   have X8:=qh hx3;have rg2':=range_below rg2 hb3 hb2;have HB3:=qh hb3;have HZ3:=qh hz3;clear rg1 rg2 hx3 hb3 hz3;go_upto_region 7 with (first|((with_reducible refine m_loadR rg2' 49 24 ?_ ?_ ?_ ?_ ?_ ?_);rfl;rfl;rfl;rfl;kernel_rfl)|((with_reducible refine m_new 49 9 25 ?_ ?_ ?_ (sC y) ?_ ?_ ?_ ?_ (sC_one _) ?_);rfl;rfl;rfl;rfl;rfl;rfl;kernel_rfl;intro w4 hx4 hb4 hz4))
   have X9:=qh hx4;have X8':=qh (X8.out.below hb4 (by have:=HZ3.out;omega));have HB4:=btr HB3 hb4;clear rg2' hx4 hb4 hz4 X8 HB3 HZ3;go_wp2_with (first|((with_reducible refine m_load X8'.out 49 8 ?_ ?_ ?_ ?_ ?_ ?_);rfl;rfl;rfl;rfl;kernel_rfl)|((with_reducible refine m_load X9.out 49 9 ?_ ?_ ?_ ?_ ?_ ?_);rfl;rfl;rfl;rfl;kernel_rfl)|(go_at_call 52;fail))
   refine (CX.out w4 (BB.out.trans (HB4.out.mono BB.out.size))).mono ?_;rintro e w5 ⟨rfl,hb⟩;have HB5:=btr HB4 hb;clear hb X8' X9 HB4 CX;have w1:IntKind.i64.wrap ((q:Int)+1)=((q+1:Nat):Int):=by rw [IntKind.wrap_i64];omega
   cases u
   ·have HR2:=qh (show R=false by rw [←HU.out];simp)
    go_wp2_with fail
    go_ret
    exact ⟨ret_bool HR2.out.symm,BB.out.trans (HB5.out.mono BB.out.size)⟩
   ·have HS2:=qh (show D (q+1)=R by rw [←HU.out];simp)
    go_wp2_with fail
    go_roundw
    case rel=>exact ⟨q+1,by omega,by go_num,BB.out.trans (HB5.out.mono BB.out.size),HS2.out⟩
    case measure=>simp [intOf];omega
  ·obtain rfl:q=n:=by omega
   have hz:¬ (q:Int)<q:=by omega
   rw [HD.out] at hd;have HU:=qh hd;have BB:=qh hbw;clear hd hbw;go_wp2_with fail
   go_ret
   exact ⟨ret_bool HU.out,BB.out⟩
theorem eqf_v {H H':List Va} {sa sb:Sl} {w:World} (h1:RS vC 8 w w.heap.size sa H) (h2:RS vC 8 w w.heap.size sb H') (D P:Nat→Bool) (R:Bool) (hR:sa.l=sb.l→D 0=R) (hne:sa.l≠sb.l→R=false) (hD:sa.l=sb.l→D sa.l=true)
  (hS:sa.l=sb.l→∀ i,i<sa.l→D i=(P i&&D (i+1)))
  (hC:sa.l=sb.l→∀ i x y,H[i]?=some x→H'[i]?=some y→∀ W,Below w.heap.size w W→Calls Tryz.prog 28 #[.agg (vC x).toArray,.agg (vC y).toArray] W fun e w'=>e=.returned (.bool (P i))∧Below W.heap.size W w') :
  Calls Tryz.prog 27 #[sa.v,sb.v,.func (.func 28) #[] #[]] w fun e w'=>e=.returned (.bool R)∧Below w.heap.size w w':=by
 obtain ⟨A,n,cap⟩:=sa;obtain ⟨A',n',cap'⟩:=sb;have h1:Rd vC 8 w w.heap.size A n cap H:=h1;have h2:Rd vC 8 w w.heap.size A' n' cap' H':=h2;simp only at hR hne hD hS hC;simp only [Sl.v];have hnl:=h1.len_le;have hnl':=h2.len_le;by_cases hlen:n=n'
 rotate_left
 ·have hz:((n:Int) != n')=true:=by rw [bne_iff_ne];omega
  have HR:=qh (hne hlen);clear h1 h2 hR hne hD hS hC;go_enter Tryz.func27,Tryz.ntmps27
  go_wp2;go_ret
  exact ⟨ret_bool HR.out.symm,Below.refl _ _⟩
 subst hlen;have R1:=qh h1;have R2:=qh h2;have HR:=qh (hR rfl);have HD:=qh (hD rfl);have HS:=qh (hS rfl);have HC:=qh (hC rfl);clear h1 h2 hR hne hD hS hC;go_enter Tryz.func27,Tryz.ntmps27
 go_upto_region 4 with (fail)
 go_loopw [17] (fun s17 wr=>∃ q:Nat,q≤n∧s17=.int .i64 q∧Below w.heap.size w wr∧D q=R) (fun i _=>n-(intOf i).toNat)
 case atStart=>exact ⟨0,Nat.zero_le _,rfl,Below.refl _ _,HR.out⟩
 case round=>
  obtain ⟨q,hq,rfl,hbw,hd⟩:=hrel;by_cases hlt:q<n
  ·have r1:Rd vC 8 wr wr.heap.size A n cap H:=(R1.out.below hbw).more hbw.size
   have r2:Rd vC 8 wr wr.heap.size A' n cap' H':=(R2.out.below hbw).more hbw.size;obtain ⟨b1,o1,x,rfl,hb1,hp,hc1⟩:=r1.at hlt;obtain ⟨b2,o2,y,rfl,hb2,hp',hc2⟩:=r2.at hlt;have CX:=qh (HC.out q x y hp hp');rw [HS.out q hlt] at hd;have BB:=qh hbw;obtain ⟨u,hu⟩:∃ u,P q=u:=⟨_,rfl⟩;rw [hu] at hd CX;have HU:=qh hd;clear hd hu hbw r1 r2 hp hp';have rg1:wr.rangeAt b1 (o1+q*8) (vC x):=hc1;have rg2:wr.rangeAt b2 (o2+q*8) (vC y):=hc2;go_upto_region 6 with (first|((with_reducible refine m_loadR rg1 60 20 ?_ ?_ ?_ ?_ ?_ ?_);rfl;rfl;rfl;rfl;kernel_rfl)|((with_reducible refine m_new 60 8 21 ?_ ?_ ?_ (vC x) ?_ ?_ ?_ ?_ (vC_one _) ?_);rfl;rfl;rfl;rfl;rfl;rfl;kernel_rfl;intro w3 hx3 hb3 hz3))
   have X8:=qh hx3;have rg2':=range_below rg2 hb3 hb2;have HB3:=qh hb3;have HZ3:=qh hz3;clear rg1 rg2 hx3 hb3 hz3;go_upto_region 7 with (first|((with_reducible refine m_loadR rg2' 60 24 ?_ ?_ ?_ ?_ ?_ ?_);rfl;rfl;rfl;rfl;kernel_rfl)|((with_reducible refine m_new 60 9 25 ?_ ?_ ?_ (vC y) ?_ ?_ ?_ ?_ (vC_one _) ?_);rfl;rfl;rfl;rfl;rfl;rfl;kernel_rfl;intro w4 hx4 hb4 hz4))
   have X9:=qh hx4;have X8':=qh (X8.out.below hb4 (by have:=HZ3.out;omega));have HB4:=btr HB3 hb4;clear rg2' hx4 hb4 hz4 X8 HB3 HZ3;go_wp2_with (first|((with_reducible refine m_load X8'.out 60 8 ?_ ?_ ?_ ?_ ?_ ?_);rfl;rfl;rfl;rfl;kernel_rfl)|((with_reducible refine m_load X9.out 60 9 ?_ ?_ ?_ ?_ ?_ ?_);rfl;rfl;rfl;rfl;kernel_rfl)|(go_at_call 28;fail))
   refine (CX.out w4 (BB.out.trans (HB4.out.mono BB.out.size))).mono ?_;rintro e w5 ⟨rfl,hb⟩;have HB5:=btr HB4 hb;clear hb X8' X9 HB4 CX;have w1:IntKind.i64.wrap ((q:Int)+1)=((q+1:Nat):Int):=by rw [IntKind.wrap_i64];omega
   cases u
   ·have HR2:=qh (show R=false by rw [←HU.out];simp)
    go_wp2_with fail
    go_ret
    exact ⟨ret_bool HR2.out.symm,BB.out.trans (HB5.out.mono BB.out.size)⟩
   ·have HS2:=qh (show D (q+1)=R by rw [←HU.out];simp)
    go_wp2_with fail
    go_roundw
    case rel=>exact ⟨q+1,by omega,by go_num,BB.out.trans (HB5.out.mono BB.out.size),HS2.out⟩
    case measure=>simp [intOf];omega
  ·obtain rfl:q=n:=by omega
   have hz:¬ (q:Int)<q:=by omega
   rw [HD.out] at hd;have HU:=qh hd;have BB:=qh hbw;clear hd hbw;go_wp2_with fail
   go_ret
   exact ⟨ret_bool HU.out,BB.out⟩
theorem eqf_i {H H':List Sl} {sa sb:Sl} {w:World} (h1:RS slC 1 w w.heap.size sa H) (h2:RS slC 1 w w.heap.size sb H') (D P:Nat→Bool) (R:Bool) (hR:sa.l=sb.l→D 0=R) (hne:sa.l≠sb.l→R=false) (hD:sa.l=sb.l→D sa.l=true)
  (hS:sa.l=sb.l→∀ i,i<sa.l→D i=(P i&&D (i+1)))
  (hC:sa.l=sb.l→∀ i x y,H[i]?=some x→H'[i]?=some y→∀ W,Below w.heap.size w W→Calls Tryz.prog 83 #[x.v,y.v] W fun e w'=>e=.returned (.bool (P i))∧Below W.heap.size W w') :
  Calls Tryz.prog 82 #[sa.v,sb.v,.func (.func 83) #[] #[]] w fun e w'=>e=.returned (.bool R)∧Below w.heap.size w w':=by
 obtain ⟨A,n,cap⟩:=sa;obtain ⟨A',n',cap'⟩:=sb;have h1:Rd slC 1 w w.heap.size A n cap H:=h1;have h2:Rd slC 1 w w.heap.size A' n' cap' H':=h2;simp only at hR hne hD hS hC;simp only [Sl.v];have hnl:=h1.len_le;have hnl':=h2.len_le;by_cases hlen:n=n'
 rotate_left
 ·have hz:((n:Int) != n')=true:=by rw [bne_iff_ne];omega
  have HR:=qh (hne hlen);clear h1 h2 hR hne hD hS hC;go_enter Tryz.func82,Tryz.ntmps82
  go_wp2;go_ret
  exact ⟨ret_bool HR.out.symm,Below.refl _ _⟩
 subst hlen;have R1:=qh h1;have R2:=qh h2;have HR:=qh (hR rfl);have HD:=qh (hD rfl);have HS:=qh (hS rfl);have HC:=qh (hC rfl);clear h1 h2 hR hne hD hS hC;go_enter Tryz.func82,Tryz.ntmps82
 go_upto_region 4 with (fail)
 go_loopw [17] (fun s17 wr=>∃ q:Nat,q≤n∧s17=.int .i64 q∧Below w.heap.size w wr∧D q=R) (fun i _=>n-(intOf i).toNat)
 case atStart=>exact ⟨0,Nat.zero_le _,rfl,Below.refl _ _,HR.out⟩
 case round=>
  obtain ⟨q,hq,rfl,hbw,hd⟩:=hrel;by_cases hlt:q<n
  ·have r1:Rd slC 1 wr wr.heap.size A n cap H:=(R1.out.below hbw).more hbw.size
   have r2:Rd slC 1 wr wr.heap.size A' n cap' H':=(R2.out.below hbw).more hbw.size;obtain ⟨b1,o1,x,rfl,hb1,hp,hc1⟩:=r1.at hlt;obtain ⟨b2,o2,y,rfl,hb2,hp',hc2⟩:=r2.at hlt;have CX:=qh (HC.out q x y hp hp');rw [HS.out q hlt] at hd;have BB:=qh hbw;obtain ⟨u,hu⟩:∃ u,P q=u:=⟨_,rfl⟩;rw [hu] at hd CX;have HU:=qh hd;clear hd hu hbw r1 r2 hp hp';have a0:=hc1 0 _ rfl;have d0:=hc2 0 _ rfl;rw [Nat.add_zero,Nat.mul_one] at a0 d0;unfold Sl.v at a0 d0;simp only [Sl.v] at CX;go_wp2_with (go_at_call 83;fail)
   refine (CX.out wr BB.out).mono ?_;rintro e w5 ⟨rfl,hb⟩;have HB5:=qh hb;clear hb CX a0 d0;have w1:IntKind.i64.wrap ((q:Int)+1)=((q+1:Nat):Int):=by rw [IntKind.wrap_i64];omega
   cases u
   ·have HR2:=qh (show R=false by rw [←HU.out];simp)
    go_wp2_with fail
    go_ret
    exact ⟨ret_bool HR2.out.symm,BB.out.trans (HB5.out.mono BB.out.size)⟩
   ·have HS2:=qh (show D (q+1)=R by rw [←HU.out];simp)
    go_wp2_with fail
    go_roundw
    case rel=>exact ⟨q+1,by omega,by go_num,BB.out.trans (HB5.out.mono BB.out.size),HS2.out⟩
    case measure=>simp [intOf];omega
  ·obtain rfl:q=n:=by omega
   have hz:¬ (q:Int)<q:=by omega
   rw [HD.out] at hd;have HU:=qh hd;have BB:=qh hbw;clear hd hbw;go_wp2_with fail
   go_ret
   exact ⟨ret_bool HU.out,BB.out⟩
theorem eqf_b {H H':List Sl} {sa sb:Sl} {w:World} (h1:RS slC 1 w w.heap.size sa H) (h2:RS slC 1 w w.heap.size sb H') (D P:Nat→Bool) (R:Bool) (hR:sa.l=sb.l→D 0=R) (hne:sa.l≠sb.l→R=false) (hD:sa.l=sb.l→D sa.l=true)
  (hS:sa.l=sb.l→∀ i,i<sa.l→D i=(P i&&D (i+1)))
  (hC:sa.l=sb.l→∀ i x y,H[i]?=some x→H'[i]?=some y→∀ W,Below w.heap.size w W→Calls Tryz.prog 29 #[x.v,y.v] W fun e w'=>e=.returned (.bool (P i))∧Below W.heap.size W w') :
  Calls Tryz.prog 85 #[sa.v,sb.v,.func (.func 29) #[] #[]] w fun e w'=>e=.returned (.bool R)∧Below w.heap.size w w':=by
 obtain ⟨A,n,cap⟩:=sa;obtain ⟨A',n',cap'⟩:=sb;have h1:Rd slC 1 w w.heap.size A n cap H:=h1;have h2:Rd slC 1 w w.heap.size A' n' cap' H':=h2;simp only at hR hne hD hS hC;simp only [Sl.v];have hnl:=h1.len_le;have hnl':=h2.len_le;by_cases hlen:n=n'
 rotate_left
 ·have hz:((n:Int) != n')=true:=by rw [bne_iff_ne];omega
  have HR:=qh (hne hlen);clear h1 h2 hR hne hD hS hC;go_enter Tryz.func85,Tryz.ntmps85
  go_wp2;go_ret
  exact ⟨ret_bool HR.out.symm,Below.refl _ _⟩
 subst hlen;have R1:=qh h1;have R2:=qh h2;have HR:=qh (hR rfl);have HD:=qh (hD rfl);have HS:=qh (hS rfl);have HC:=qh (hC rfl);clear h1 h2 hR hne hD hS hC;go_enter Tryz.func85,Tryz.ntmps85
 go_upto_region 4 with (fail)
 go_loopw [17] (fun s17 wr=>∃ q:Nat,q≤n∧s17=.int .i64 q∧Below w.heap.size w wr∧D q=R) (fun i _=>n-(intOf i).toNat)
 case atStart=>exact ⟨0,Nat.zero_le _,rfl,Below.refl _ _,HR.out⟩
 case round=>
  obtain ⟨q,hq,rfl,hbw,hd⟩:=hrel;by_cases hlt:q<n
  ·have r1:Rd slC 1 wr wr.heap.size A n cap H:=(R1.out.below hbw).more hbw.size
   have r2:Rd slC 1 wr wr.heap.size A' n cap' H':=(R2.out.below hbw).more hbw.size;obtain ⟨b1,o1,x,rfl,hb1,hp,hc1⟩:=r1.at hlt;obtain ⟨b2,o2,y,rfl,hb2,hp',hc2⟩:=r2.at hlt;have CX:=qh (HC.out q x y hp hp');rw [HS.out q hlt] at hd;have BB:=qh hbw;obtain ⟨u,hu⟩:∃ u,P q=u:=⟨_,rfl⟩;rw [hu] at hd CX;have HU:=qh hd;clear hd hu hbw r1 r2 hp hp';have a0:=hc1 0 _ rfl;have d0:=hc2 0 _ rfl;rw [Nat.add_zero,Nat.mul_one] at a0 d0;unfold Sl.v at a0 d0;simp only [Sl.v] at CX;go_wp2_with (go_at_call 29;fail)
   refine (CX.out wr BB.out).mono ?_;rintro e w5 ⟨rfl,hb⟩;have HB5:=qh hb;clear hb CX a0 d0;have w1:IntKind.i64.wrap ((q:Int)+1)=((q+1:Nat):Int):=by rw [IntKind.wrap_i64];omega
   cases u
   ·have HR2:=qh (show R=false by rw [←HU.out];simp)
    go_wp2_with fail
    go_ret
    exact ⟨ret_bool HR2.out.symm,BB.out.trans (HB5.out.mono BB.out.size)⟩
   ·have HS2:=qh (show D (q+1)=R by rw [←HU.out];simp)
    go_wp2_with fail
    go_roundw
    case rel=>exact ⟨q+1,by omega,by go_num,BB.out.trans (HB5.out.mono BB.out.size),HS2.out⟩
    case measure=>simp [intOf];omega
  ·obtain rfl:q=n:=by omega
   have hz:¬ (q:Int)<q:=by omega
   rw [HD.out] at hd;have HU:=qh hd;have BB:=qh hbw;clear hd hbw;go_wp2_with fail
   go_ret
   exact ⟨ret_bool HU.out,BB.out⟩
def pr2 {α:Type} (f:α→α→Bool) (L M:List α) (i:Nat):Bool:=match L[i]?,M[i]? with
 | some a,some b=>f a b
 | _,_=>false
theorem pr2_at {α:Type} {f:α→α→Bool} {L M:List α} {i:Nat} {x y:α} (h1:L[i]?=some x) (h2:M[i]?=some y):pr2 f L M i=f x y:=by
 unfold pr2;rw [h1,h2]
theorem ees_len:∀ {L M:List Ex},L.length≠M.length→exsSame L M=false
 | [],[],h=>absurd rfl h
 | [],_::_,_=>rfl
 | _::_,[],_=>rfl
 | x::L,y::M,h=>by rw [exsSame,ees_len (by simpa using h)];simp
theorem ees_at {L M:List Ex} {i:Nat} (h1:i<L.length) (h2:i<M.length):exsSame (L.drop i) (M.drop i)=(pr2 exSame L M i&&exsSame (L.drop (i+1)) (M.drop (i+1))):=by
 rw [List.drop_eq_getElem_cons h1,List.drop_eq_getElem_cons h2,exsSame,pr2_at (List.getElem?_eq_getElem h1) (List.getElem?_eq_getElem h2)]
theorem size_at {α:Type} [SizeOf α] {L:List α} {i:Nat} {x:α} (h:L[i]?=some x):SizeOf.sizeOf x<SizeOf.sizeOf L:=List.sizeOf_lt_of_mem (List.mem_of_getElem? h)
theorem two_new (w:World) (c1 c2:Array Value) (t1 t2:TypeId):∃ W,(w.alloc (.cells c1 t1)).alloc (.cells c2 t2)=W∧Box W w.heap.size 0 c1.toList∧Box W (w.heap.size+1) 0 c2.toList∧Below w.heap.size w W∧W.heap.size=w.heap.size+1+1:=by
 have z1:(w.alloc (.cells c1 t1)).heap.size=w.heap.size+1:=by simp
 have b1:=(Below.refl w.heap.size w).alloc (Nat.le_refl _) (.cells c1 t1);have b2:=(Below.refl (w.alloc (.cells c1 t1)).heap.size _).alloc (Nat.le_refl _) (.cells c2 t2);have x1:=Box.new w c1 t1;have x2:=Box.new (w.alloc (.cells c1 t1)) c2 t2;rw [z1] at b2 x2;exact ⟨_,rfl,x1.below b2 (by omega),x2,b1.trans (b2.mono (by omega)),by simp⟩
def SmE (N:Nat):Prop:=∀ x y:Ex,SizeOf.sizeOf x<N→∀ (h h':EH) (w:World),ExAt w w.heap.size x h→ExAt w w.heap.size y h' →
 Calls Tryz.prog 80 #[.agg (eC h).toArray,.agg (eC h').toArray] w fun e w'=>e=.returned (.bool (exSame x y))∧Below w.heap.size w w'
theorem exl_eq {N:Nat} (IH:SmE N) {La Lb:List Ex} (hN:SizeOf.sizeOf La≤N) {sa sb:Sl} {w:World} (h1:ExL w w.heap.size sa La) (h2:ExL w w.heap.size sb Lb) :
  Calls Tryz.prog 81 #[sa.v,sb.v,.func (.func 80) #[] #[]] w fun e w'=>e=.returned (.bool (exsSame La Lb))∧Below w.heap.size w w':=by
 obtain ⟨H,h1,h3⟩:=h1;obtain ⟨H',h2,h4⟩:=h2;have l1:La.length=sa.l:=h3.len.symm.trans h1.1;have l2:Lb.length=sb.l:=h4.len.symm.trans h2.1;refine eqf_e h1 h2 (fun i=>exsSame (La.drop i) (Lb.drop i)) (pr2 exSame La Lb) _ (fun _=>rfl) (fun hne=>ees_len (by omega)) (fun he=>?_) (fun he i hi=>ees_at (by omega) (by omega)) (fun he i a b ha hb W hW=>?_)
 ·show exsSame (La.drop sa.l) (Lb.drop sa.l)=true
  rw [List.drop_of_length_le (by omega),List.drop_of_length_le (by omega)];rfl
 ·obtain ⟨x,hx,hxa⟩:=h3.at ha
  obtain ⟨y,hy,hyb⟩:=h4.at hb;rw [pr2_at hx hy];exact IH x y (by have:=size_at hx;omega) a b W (hxa.below hW hW.size) (hyb.below hW hW.size)
theorem same_e_step {N:Nat} (IH:SmE N):SmE (N+1):=by
 unfold SmE;intro x y hN h h' w hx hy;obtain ⟨xo,xn,xs,xf,xsub,xl⟩:=x;obtain ⟨yo,yn,ys,yf,ysub,yl⟩:=y;obtain ⟨o,n,s,f,⟨A,l,c⟩,ln⟩:=h;obtain ⟨o',n',s',f',⟨A',l',c'⟩,ln'⟩:=h';unfold ExAt at hx hy;obtain ⟨rfl,rfl,rfl,rfl,rfl,hx⟩:=hx;obtain ⟨rfl,rfl,rfl,rfl,rfl,hy⟩:=hy;have hx:ExL w w.heap.size ⟨A,l,c⟩ xsub:=hx;have hy:ExL w w.heap.size ⟨A',l',c'⟩ ysub:=hy;obtain ⟨u5,hu5⟩:∃ u,exsSame xsub ysub=u:=⟨_,rfl⟩;have hsz:SizeOf.sizeOf xsub≤N:=by
  simp only [Ex.mk.sizeOf_spec] at hN;omega
 have SC:=qh (show ∀ W,Below w.heap.size w W→Calls Tryz.prog 81 #[.slice A l c,.slice A' l' c',.func (.func 80) #[] #[]] W fun e w'=>e=.returned (.bool u5)∧Below W.heap.size W w' from fun W hW=>by
  have h:=exl_eq IH hsz (hx.below hW hW.size) (hy.below hW hW.size);rw [hu5] at h;exact h)
 clear hsz;rw [exSame,hu5];clear hx hy hN IH hu5;have t3:=sv_eq s s';have t4:=sv_eq f f';simp only [eC,sv,Sl.v];obtain ⟨xs,hxs⟩:∃ z,(⟨s.toArray⟩:ByteArray)=z:=⟨_,rfl⟩;obtain ⟨ys,hys⟩:∃ z,(⟨s'.toArray⟩:ByteArray)=z:=⟨_,rfl⟩;obtain ⟨xf,hxf⟩:∃ z,(⟨f.toArray⟩:ByteArray)=z:=⟨_,rfl⟩;obtain ⟨yf,hyf⟩:∃ z,(⟨f'.toArray⟩:ByteArray)=z:=⟨_,rfl⟩;obtain ⟨u1,hu1⟩:∃ u,(o==o')=u:=⟨_,rfl⟩;obtain ⟨u2,hu2⟩:∃ u,(n==n')=u:=⟨_,rfl⟩;obtain ⟨u3,hu3⟩:∃ u,(s==s')=u:=⟨_,rfl⟩;obtain ⟨u4,hu4⟩:∃ u,(f==f')=u:=⟨_,rfl⟩;have t3:(xs.toList==ys.toList)=u3:=by rw [←hxs,←hys,ByteArray.toList_eq,ByteArray.toList_eq];exact hu3
 have t4:(xf.toList==yf.toList)=u4:=by rw [←hxf,←hyf,ByteArray.toList_eq,ByteArray.toList_eq];exact hu4
 obtain ⟨R,hR⟩:∃ R,(o==o'&&(n==n'&&(s==s'&&(f==f'&&u5))))=R:=⟨_,rfl⟩;rw [hxs,hys,hxf,hyf,hR];rw [hu1,hu2,hu3,hu4] at hR;have HR:=qh hR;clear hR hxs hys hxf hyf hu3 hu4;go_enter Tryz.func80,Tryz.ntmps80
 go_upto_region 1 with (fail)
 obtain ⟨w1,e1,x2,x3,b1,z1⟩:=two_new w #[.int .i64 o,.int .i64 n,.string xs,.string xf,.slice A l c,.int .i64 ln] #[.int .i64 o',.int .i64 n',.string ys,.string yf,.slice A' l' c',.int .i64 ln'] 44 44;rw [e1];have BB:=qh b1;have CX:=qh (SC.out w1 b1);have ⟨c0,_,c1,_,c2,_,c3,_,c4,_,_⟩:=x2;have ⟨d0,_,d1,_,d2,_,d3,_,d4,_,_⟩:=x3;clear e1 x2 x3 b1 z1 SC;cases u1
 ·have HF:=qh (show R=false by rw [←HR.out];simp)
  go_wp2_with fail
  go_ret
  exact ⟨ret_bool HF.out.symm,BB.out⟩
 cases u2
 ·have HF:=qh (show R=false by rw [←HR.out];simp)
  go_wp2_with fail
  go_ret
  exact ⟨ret_bool HF.out.symm,BB.out⟩
 cases u3
 ·have HF:=qh (show R=false by rw [←HR.out];simp)
  go_wp2_with fail
  go_ret
  exact ⟨ret_bool HF.out.symm,BB.out⟩
 cases u4
 ·have HF:=qh (show R=false by rw [←HR.out];simp)
  go_wp2_with fail
  go_ret
  exact ⟨ret_bool HF.out.symm,BB.out⟩
 have HF:=qh (show u5=R by rw [←HR.out];simp);go_wp2_with (go_at_call 81;fail)
 refine CX.out.mono ?_;rintro e w2 ⟨rfl,hb⟩;have B2:=btr BB hb;clear hb CX;go_wp2_with fail
 go_ret
 exact ⟨ret_bool HF.out,B2.out⟩
theorem same_e_all:∀ N,SmE N
 | 0=>fun _ _ h=>absurd h (by omega)
 | N+1=>same_e_step (same_e_all N)
theorem same_e {x y:Ex} {h h':EH} {w:World} (hx:ExAt w w.heap.size x h) (hy:ExAt w w.heap.size y h') :
  Calls Tryz.prog 80 #[.agg (eC h).toArray,.agg (eC h').toArray] w fun e w'=>e=.returned (.bool (exSame x y))∧Below w.heap.size w w':=
 same_e_all (SizeOf.sizeOf x+1) x y (by omega) h h' w hx hy
theorem same_el {La Lb:List Ex} {sa sb:Sl} {w:World} (h1:ExL w w.heap.size sa La) (h2:ExL w w.heap.size sb Lb) :
  Calls Tryz.prog 81 #[sa.v,sb.v,.func (.func 80) #[] #[]] w fun e w'=>e=.returned (.bool (exsSame La Lb))∧Below w.heap.size w w':=
 exl_eq (same_e_all (SizeOf.sizeOf La)) (Nat.le_refl _) h1 h2
theorem vvs_len:∀ {L M:List Va},L.length≠M.length→vasSame L M=false
 | [],[],h=>absurd rfl h
 | [],_::_,_=>rfl
 | _::_,[],_=>rfl
 | x::L,y::M,h=>by rw [vasSame,vvs_len (by simpa using h)];simp
theorem vvs_at {L M:List Va} {i:Nat} (h1:i<L.length) (h2:i<M.length):vasSame (L.drop i) (M.drop i)=(pr2 vaSame L M i&&vasSame (L.drop (i+1)) (M.drop (i+1))):=by
 rw [List.drop_eq_getElem_cons h1,List.drop_eq_getElem_cons h2,vasSame,pr2_at (List.getElem?_eq_getElem h1) (List.getElem?_eq_getElem h2)]
theorem same_v (x y:Va) (w:World):Calls Tryz.prog 28 #[.agg (vC x).toArray,.agg (vC y).toArray] w fun e w'=>e=.returned (.bool (vaSame x y))∧Below w.heap.size w w':=by
 obtain ⟨xs',xty,xse,xar,xlo,xhi,xin,xln⟩:=x;obtain ⟨ys',yty,yse,yar,ylo,yhi,yin,yln⟩:=y;unfold vaSame;simp only [vC,sv];obtain ⟨xs,hxs⟩:∃ z,(⟨xs'.toArray⟩:ByteArray)=z:=⟨_,rfl⟩;obtain ⟨ys,hys⟩:∃ z,(⟨ys'.toArray⟩:ByteArray)=z:=⟨_,rfl⟩;obtain ⟨y1,hy1⟩:∃ u,(xs'==ys')=u:=⟨_,rfl⟩;obtain ⟨y2,hy2⟩:∃ u,(xty==yty)=u:=⟨_,rfl⟩;obtain ⟨y3,hy3⟩:∃ u,(xse==yse)=u:=⟨_,rfl⟩;obtain ⟨y4,hy4⟩:∃ u,(xar==yar)=u:=⟨_,rfl⟩;obtain ⟨y5,hy5⟩:∃ u,(xlo==ylo)=u:=⟨_,rfl⟩;obtain ⟨y6,hy6⟩:∃ u,(xhi==yhi)=u:=⟨_,rfl⟩;obtain ⟨y7,hy7⟩:∃ u,(xin==yin)=u:=⟨_,rfl⟩;have t1:(xs.toList==ys.toList)=y1:=by rw [←hxs,←hys,ByteArray.toList_eq,ByteArray.toList_eq];exact hy1
 obtain ⟨R,hR⟩:∃ R,(xs'==ys'&&(xty==yty&&(xse==yse&&(xar==yar&&(xlo==ylo&&(xhi==yhi&&xin==yin))))))=R:=⟨_,rfl⟩;rw [hxs,hys,hR];rw [hy1,hy2,hy3,hy4,hy5,hy6,hy7] at hR;have HR:=qh hR;have TY:=qh (And.intro t1 (And.intro hy2 (And.intro hy3 (And.intro hy4 (And.intro hy5 (And.intro hy6 hy7))))));clear hR hxs hys t1 hy1 hy2 hy3 hy4 hy5 hy6 hy7;go_enter Tryz.func28,Tryz.ntmps28
 go_upto_region 1 with (fail)
 obtain ⟨w1,e1,x2,x3,b1,z1⟩:=two_new w #[.string xs,.int .i64 xty,.int .i64 xse,.bool xar,.int .i64 xlo,.int .i64 xhi,.int .i64 xin,.int .i64 xln] #[.string ys,.int .i64 yty,.int .i64 yse,.bool yar,.int .i64 ylo,.int .i64 yhi,.int .i64 yin,.int .i64 yln] 60 60;rw [e1];have BB:=qh b1;have X2:=qh x2;have X3:=qh x3;have ⟨_,_,_,_,_,_,_,_,_,_,_,_,_,_,c7,f7,_⟩:=x2;have ⟨_,_,_,_,_,_,_,_,_,_,_,_,_,_,d7,l7,_⟩:=x3;clear e1 x2 x3 b1;go_upto_region 2 with (fail)
 have n2:=Box.put X2.out 7 (by simp) (.int .i64 yln);have n3:=gr_box (gr_set w1 w.heap.size 7 (.int .i64 yln)) (by omega) (by omega) X3.out;have b2:=gr_below (gr_set w1 w.heap.size 7 (.int .i64 yln)) (Nat.le_refl w.heap.size) (by omega);simp only [List.set_cons_succ,List.set_cons_zero] at n2;generalize w1.setCell ⟨w.heap.size,7,none⟩ (.int .i64 yln)=w2 at *;have B2:=qh (BB.out.trans b2);have ⟨c0,_,c1,_,c2,_,c3,_,c4,_,c5,_,c6,_,c7,_,_⟩:=n2;have ⟨d0,_,d1,_,d2,_,d3,_,d4,_,d5,_,d6,_,d7,_,_⟩:=n3;clear X2 X3 n2 n3 b2 BB z1;obtain ⟨t1,t2,t3,t4,t5,t6,t7⟩:=TY.out;clear TY;cases y1
 ·have HF:=qh (show R=false by rw [←HR.out];simp)
  go_wp2_with fail
  go_ret
  exact ⟨ret_bool HF.out.symm,B2.out⟩
 cases y2
 ·have HF:=qh (show R=false by rw [←HR.out];simp)
  go_wp2_with fail
  go_ret
  exact ⟨ret_bool HF.out.symm,B2.out⟩
 cases y3
 ·have HF:=qh (show R=false by rw [←HR.out];simp)
  go_wp2_with fail
  go_ret
  exact ⟨ret_bool HF.out.symm,B2.out⟩
 cases y4
 ·have HF:=qh (show R=false by rw [←HR.out];simp)
  go_wp2_with fail
  go_ret
  exact ⟨ret_bool HF.out.symm,B2.out⟩
 cases y5
 ·have HF:=qh (show R=false by rw [←HR.out];simp)
  go_wp2_with fail
  go_ret
  exact ⟨ret_bool HF.out.symm,B2.out⟩
 cases y6
 ·have HF:=qh (show R=false by rw [←HR.out];simp)
  go_wp2_with fail
  go_ret
  exact ⟨ret_bool HF.out.symm,B2.out⟩
 cases y7
 ·have HF:=qh (show R=false by rw [←HR.out];simp)
  go_wp2_with fail
  go_ret
  exact ⟨ret_bool HF.out.symm,B2.out⟩
 have HF:=qh (show true=R by rw [←HR.out];simp);go_wp2_with fail
 go_ret
 exact ⟨ret_bool HF.out,B2.out⟩
theorem same_vl {La Lb:List Va} {sa sb:Sl} {w:World} (h1:RS vC 8 w w.heap.size sa La) (h2:RS vC 8 w w.heap.size sb Lb) :
  Calls Tryz.prog 27 #[sa.v,sb.v,.func (.func 28) #[] #[]] w fun e w'=>e=.returned (.bool (vasSame La Lb))∧Below w.heap.size w w':=by
 have l1:La.length=sa.l:=h1.1;have l2:Lb.length=sb.l:=h2.1;refine eqf_v h1 h2 (fun i=>vasSame (La.drop i) (Lb.drop i)) (pr2 vaSame La Lb) _ (fun _=>rfl) (fun hne=>vvs_len (by omega)) (fun he=>?_) (fun he i hi=>vvs_at (by omega) (by omega)) (fun he i a b ha hb W hW=>?_)
 ·show vasSame (La.drop sa.l) (Lb.drop sa.l)=true
  rw [List.drop_of_length_le (by omega),List.drop_of_length_le (by omega)];rfl
 ·rw [pr2_at ha hb]
  exact same_v a b W
theorem sts_len:∀ {L M:List St},L.length≠M.length→stsSame L M=false
 | [],[],h=>absurd rfl h
 | [],_::_,_=>by simp [stsSame]
 | _::_,[],_=>by simp [stsSame]
 | x::L,y::M,h=>by rw [stsSame,sts_len (by simpa using h)];simp
theorem bls_len:∀ {L M:List (List St)},L.length≠M.length→blksSame L M=false
 | [],[],h=>absurd rfl h
 | [],_::_,_=>by simp [blksSame]
 | _::_,[],_=>by simp [blksSame]
 | x::L,y::M,h=>by rw [blksSame,bls_len (by simpa using h)];simp
theorem sts_at {L M:List St} {i:Nat} (h1:i<L.length) (h2:i<M.length):stsSame (L.drop i) (M.drop i)=(pr2 stSame L M i&&stsSame (L.drop (i+1)) (M.drop (i+1))):=by
 rw [List.drop_eq_getElem_cons h1,List.drop_eq_getElem_cons h2,stsSame,pr2_at (List.getElem?_eq_getElem h1) (List.getElem?_eq_getElem h2)]
theorem bls_at {L M:List (List St)} {i:Nat} (h1:i<L.length) (h2:i<M.length):blksSame (L.drop i) (M.drop i)=(pr2 stsSame L M i&&blksSame (L.drop (i+1)) (M.drop (i+1))):=by
 rw [List.drop_eq_getElem_cons h1,List.drop_eq_getElem_cons h2,blksSame,pr2_at (List.getElem?_eq_getElem h1) (List.getElem?_eq_getElem h2)]
theorem sub_range {w:World} {g:Nat} {c1 c2 c3:List Value} (h:Box w g 0 (c1++(c2++c3))):w.rangeAt g c1.length c2:=fun i v hv=>by
 have hi:=(List.getElem?_eq_some_iff.1 hv).1;refine (k.cell_of h (i:=c1.length+i) ?_).1;rw [List.getElem?_append_right (by omega),Nat.add_sub_cancel_left,List.getElem?_append_left hi];exact hv
theorem same_labs {La Lb:List (List Int)} {sa sb:Sl} {w:World} (h1:∃ H,RS slC 1 w w.heap.size sa H∧LabsAt w w.heap.size La H) (h2:∃ H,RS slC 1 w w.heap.size sb H∧LabsAt w w.heap.size Lb H) :
  Calls Tryz.prog 82 #[sa.v,sb.v,.func (.func 83) #[] #[]] w fun e w'=>e=.returned (.bool (La==Lb))∧Below w.heap.size w w':=by
 obtain ⟨H,h1,h3⟩:=h1;obtain ⟨H',h2,h4⟩:=h2;have l1:La.length=sa.l:=h3.len.symm.trans h1.1;have l2:Lb.length=sb.l:=h4.len.symm.trans h2.1;refine eqf_i h1 h2 (fun i=>La.drop i==Lb.drop i) (pr2 (fun a b=>a==b) La Lb) _ (fun _=>rfl) (fun hne=>eq_len (by omega)) (fun he=>eq_end l1 (by omega)) (fun he i hi=>?_) (fun he i a b ha hb W hW=>?_)
 ·have a1:La[i]?=some (La[i]'(by omega)):=List.getElem?_eq_getElem _
  have a2:Lb[i]?=some (Lb[i]'(by omega)):=List.getElem?_eq_getElem _;rw [pr2_at a1 a2];exact eq_drop a1 a2
 ·obtain ⟨x,hx,hxa⟩:=h3.at ha
  obtain ⟨y,hy,hyb⟩:=h4.at hb;rw [pr2_at hx hy];exact ints_eq x y a b W (hxa.below hW hW.size) (hyb.below hW hW.size)
def SmS (N:Nat):Prop:=∀ x y:St,SizeOf.sizeOf x<N→∀ (h h':SH) (w:World),StAt w w.heap.size x h→StAt w w.heap.size y h' →
 Calls Tryz.prog 52 #[.agg (sC h).toArray,.agg (sC h').toArray] w fun e w'=>e=.returned (.bool (stSame x y))∧Below w.heap.size w w'
theorem stl_eq {N:Nat} (IH:SmS N) {La Lb:List St} (hN:SizeOf.sizeOf La≤N) {sa sb:Sl} {w:World} (h1:StL w w.heap.size sa La) (h2:StL w w.heap.size sb Lb) :
  Calls Tryz.prog 51 #[sa.v,sb.v,.func (.func 52) #[] #[]] w fun e w'=>e=.returned (.bool (stsSame La Lb))∧Below w.heap.size w w':=by
 obtain ⟨H,h1,h3⟩:=h1;obtain ⟨H',h2,h4⟩:=h2;have l1:La.length=sa.l:=h3.len.symm.trans h1.1;have l2:Lb.length=sb.l:=h4.len.symm.trans h2.1;refine eqf_s h1 h2 (fun i=>stsSame (La.drop i) (Lb.drop i)) (pr2 stSame La Lb) _ (fun _=>rfl) (fun hne=>sts_len (by omega)) (fun he=>?_) (fun he i hi=>sts_at (by omega) (by omega)) (fun he i a b ha hb W hW=>?_)
 ·show stsSame (La.drop sa.l) (Lb.drop sa.l)=true
  rw [List.drop_of_length_le (by omega),List.drop_of_length_le (by omega)];simp [stsSame]
 ·obtain ⟨x,hx,hxa⟩:=h3.at ha
  obtain ⟨y,hy,hyb⟩:=h4.at hb;rw [pr2_at hx hy];exact IH x y (by have:=size_at hx;omega) a b W (hxa.below hW hW.size) (hyb.below hW hW.size)
theorem blk_eq {N:Nat} (IH:SmS N) {La Lb:List St} (hN:SizeOf.sizeOf La≤N) {sa sb:Sl} {w:World} (h1:StL w w.heap.size sa La) (h2:StL w w.heap.size sb Lb) :
  Calls Tryz.prog 29 #[sa.v,sb.v] w fun e w'=>e=.returned (.bool (stsSame La Lb))∧Below w.heap.size w w':=by
 have C:=qh (stl_eq IH hN h1 h2);clear IH hN h1 h2;obtain ⟨R,hR⟩:∃ R,stsSame La Lb=R:=⟨_,rfl⟩;rw [hR] at C ⊢;clear hR;go_enter Tryz.func29,Tryz.ntmps29
 go_wp2_with (go_at_call 51;fail)
 refine C.out.mono ?_;rintro e w2 ⟨rfl,hb⟩;have HB:=qh hb;clear hb C;go_wp2_with fail
 go_ret
 exact ⟨rfl,HB.out⟩
theorem blks_eq {N:Nat} (IH:SmS N) {La Lb:List (List St)} (hN:SizeOf.sizeOf La≤N) {sa sb:Sl} {w:World} (h1:∃ H,RS slC 1 w w.heap.size sa H∧BlksAt w w.heap.size La H) (h2:∃ H,RS slC 1 w w.heap.size sb H∧BlksAt w w.heap.size Lb H) :
  Calls Tryz.prog 85 #[sa.v,sb.v,.func (.func 29) #[] #[]] w fun e w'=>e=.returned (.bool (blksSame La Lb))∧Below w.heap.size w w':=by
 obtain ⟨H,h1,h3⟩:=h1;obtain ⟨H',h2,h4⟩:=h2;have l1:La.length=sa.l:=h3.len.symm.trans h1.1;have l2:Lb.length=sb.l:=h4.len.symm.trans h2.1;refine eqf_b h1 h2 (fun i=>blksSame (La.drop i) (Lb.drop i)) (pr2 stsSame La Lb) _ (fun _=>rfl) (fun hne=>bls_len (by omega)) (fun he=>?_) (fun he i hi=>bls_at (by omega) (by omega)) (fun he i a b ha hb W hW=>?_)
 ·show blksSame (La.drop sa.l) (Lb.drop sa.l)=true
  rw [List.drop_of_length_le (by omega),List.drop_of_length_le (by omega)];simp [blksSame]
 ·obtain ⟨x,hx,hxa⟩:=h3.at ha
  obtain ⟨y,hy,hyb⟩:=h4.at hb;rw [pr2_at hx hy];exact blk_eq IH (by have:=size_at hx;omega) (hxa.below hW hW.size) (hyb.below hW hW.size)
theorem labs_below {La:List (List Int)} {s:Sl} {w W:World} (h:∃ H,RS slC 1 w w.heap.size s H∧LabsAt w w.heap.size La H) (hW:Below w.heap.size w W):∃ H,RS slC 1 W W.heap.size s H∧LabsAt W W.heap.size La H:=by
 obtain ⟨H,h1,h2⟩:=h;exact ⟨H,h1.below hW hW.size,h2.below hW hW.size⟩
theorem blks_below {La:List (List St)} {s:Sl} {w W:World} (h:∃ H,RS slC 1 w w.heap.size s H∧BlksAt w w.heap.size La H) (hW:Below w.heap.size w W):∃ H,RS slC 1 W W.heap.size s H∧BlksAt W W.heap.size La H:=by
 obtain ⟨H,h1,h2⟩:=h;exact ⟨H,h1.below hW hW.size,h2.below hW hW.size⟩
theorem same_s_step {N:Nat} (IH:SmS N):SmS (N+1):=by
 unfold SmS;intro x y hN h h' w hx hy;obtain ⟨xo,xnm,xD,xV,xC,xL,xF,xB,xl⟩:=x;obtain ⟨yo,ynm,yD,yV,yC,yL,yF,yB,yl⟩:=y;obtain ⟨o,nm,d,v,cs,ls,fs,bs,ln⟩:=h;obtain ⟨o',nm',d',v',cs',ls',fs',bs',ln'⟩:=h';unfold StAt at hx hy;obtain ⟨rfl,rfl,rfl,xd,xv,xc,xls,xfs,xbs⟩:=hx;obtain ⟨rfl,rfl,rfl,yd,yv,yc,yls,yfs,ybs⟩:=hy;have xbs:∃ H,RS slC 1 w w.heap.size bs H∧BlksAt w w.heap.size xB H:=xbs;have ybs:∃ H,RS slC 1 w w.heap.size bs' H∧BlksAt w w.heap.size yB H:=ybs;have hsz:SizeOf.sizeOf xB≤N:=by
  simp only [St.mk.sizeOf_spec] at hN;omega
 clear hN;obtain ⟨u1,hu1⟩:∃ u,(o==o')=u:=⟨_,rfl⟩;obtain ⟨u2,hu2⟩:∃ u,(nm==nm')=u:=⟨_,rfl⟩;obtain ⟨u3,hu3⟩:∃ u,exSame xD yD=u:=⟨_,rfl⟩;obtain ⟨u4,hu4⟩:∃ u,exSame xV yV=u:=⟨_,rfl⟩;obtain ⟨u5,hu5⟩:∃ u,exsSame xC yC=u:=⟨_,rfl⟩;obtain ⟨u6,hu6⟩:∃ u,(xL==yL)=u:=⟨_,rfl⟩;obtain ⟨u7,hu7⟩:∃ u,(xF==yF)=u:=⟨_,rfl⟩;obtain ⟨u8,hu8⟩:∃ u,blksSame xB yB=u:=⟨_,rfl⟩;obtain ⟨R,hR⟩:∃ R,stSame (.mk o nm xD xV xC xL xF xB ln) (.mk o' nm' yD yV yC yL yF yB ln')=R:=⟨_,rfl⟩;rw [hR];rw [stSame,hu1,hu2,hu3,hu4,hu5,hu6,hu7,hu8] at hR;have HR:=qh hR;clear hR;have SC1:=qh (show ∀ W,Below w.heap.size w W→Calls Tryz.prog 80 #[.agg (eC d).toArray,.agg (eC d').toArray] W fun e w'=>e=.returned (.bool u3)∧Below W.heap.size W w' from fun W hW=>by
  have h:=same_e (xd.below hW hW.size) (yd.below hW hW.size);rw [hu3] at h;exact h)
 have SC2:=qh (show ∀ W,Below w.heap.size w W→Calls Tryz.prog 80 #[.agg (eC v).toArray,.agg (eC v').toArray] W fun e w'=>e=.returned (.bool u4)∧Below W.heap.size W w' from fun W hW=>by
  have h:=same_e (xv.below hW hW.size) (yv.below hW hW.size);rw [hu4] at h;exact h)
 have SC3:=qh (show ∀ W,Below w.heap.size w W→Calls Tryz.prog 81 #[cs.v,cs'.v,.func (.func 80) #[] #[]] W fun e w'=>e=.returned (.bool u5)∧Below W.heap.size W w' from fun W hW=>by
  have h:=same_el (xc.below hW hW.size) (yc.below hW hW.size);rw [hu5] at h;exact h)
 have SC4:=qh (show ∀ W,Below w.heap.size w W→Calls Tryz.prog 82 #[ls.v,ls'.v,.func (.func 83) #[] #[]] W fun e w'=>e=.returned (.bool u6)∧Below W.heap.size W w' from fun W hW=>by
  have h:=same_labs (labs_below xls hW) (labs_below yls hW);rw [hu6] at h;exact h)
 have SC5:=qh (show ∀ W,Below w.heap.size w W→Calls Tryz.prog 84 #[fs.v,fs'.v] W fun e w'=>e=.returned (.bool u7)∧Below W.heap.size W w' from fun W hW=>by
  have h:=strs_eq xF yF fs fs' W (xfs.below hW hW.size) (yfs.below hW hW.size);rw [hu7] at h;exact h)
 have SC6:=qh (show ∀ W,Below w.heap.size w W→Calls Tryz.prog 85 #[bs.v,bs'.v,.func (.func 29) #[] #[]] W fun e w'=>e=.returned (.bool u8)∧Below W.heap.size W w' from fun W hW=>by
  have h:=blks_eq IH hsz (blks_below xbs hW) (blks_below ybs hW);rw [hu8] at h;exact h)
 clear xd xv xc xls xfs xbs yd yv yc yls yfs ybs IH hsz hu3 hu4 hu5 hu6 hu7 hu8;obtain ⟨xs,hxs⟩:∃ z,(⟨nm.toArray⟩:ByteArray)=z:=⟨_,rfl⟩;obtain ⟨ys,hys⟩:∃ z,(⟨nm'.toArray⟩:ByteArray)=z:=⟨_,rfl⟩;have t2:(xs.toList==ys.toList)=u2:=by rw [←hxs,←hys,ByteArray.toList_eq,ByteArray.toList_eq];exact hu2
 clear hu2;obtain ⟨C1,hC1⟩:∃ C,(sC ⟨o,nm,d,v,cs,ls,fs,bs,ln⟩).toArray=C:=⟨_,rfl⟩;obtain ⟨C2,hC2⟩:∃ C,(sC ⟨o',nm',d',v',cs',ls',fs',bs',ln'⟩).toArray=C:=⟨_,rfl⟩;rw [hC1,hC2];go_enter Tryz.func52,Tryz.ntmps52
 go_upto_region 1 with (fail)
 obtain ⟨w1,e1,x2,x3,b1,z1⟩:=two_new w C1 C2 49 49;rw [e1];rw [←hC1] at x2;rw [←hC2] at x3;have x2:Box w1 w.heap.size 0 (sC ⟨o,nm,d,v,cs,ls,fs,bs,ln⟩):=x2;have x3:Box w1 (w.heap.size+1) 0 (sC ⟨o',nm',d',v',cs',ls',fs',bs',ln'⟩):=x3;have BB:=qh b1;have X2:=qh x2;have X3:=qh x3;have Z:=qh z1;have c0:w1.cell? ⟨w.heap.size,0,none⟩=some (.int .i64 o):=x2.1;have d0:w1.cell? ⟨w.heap.size+1,0,none⟩=some (.int .i64 o'):=x3.1;have c1:w1.cell? ⟨w.heap.size,1,none⟩=some (.string xs):=by rw [←hxs];exact x2.2.2.1
 have d1:w1.cell? ⟨w.heap.size+1,1,none⟩=some (.string ys):=by rw [←hys];exact x3.2.2.1
 have rg1:w1.rangeAt w.heap.size 2 (eC d):=sub_range (c1:=[.int .i64 o,sv nm]) (c2:=eC d) (c3:=eC v++[cs.v,ls.v,fs.v,bs.v,.int .i64 ln]) x2;have rg2:w1.rangeAt (w.heap.size+1) 2 (eC d'):=sub_range (c1:=[.int .i64 o',sv nm']) (c2:=eC d') (c3:=eC v'++[cs'.v,ls'.v,fs'.v,bs'.v,.int .i64 ln']) x3;clear e1 x2 x3 b1 z1 hxs hys hC1 hC2;cases u1
 ·have HF:=qh (show R=false by rw [←HR.out];simp)
  go_wp2_with fail
  go_ret
  exact ⟨ret_bool HF.out.symm,BB.out⟩
 cases u2
 ·have HF:=qh (show R=false by rw [←HR.out];simp)
  go_wp2_with fail
  go_ret
  exact ⟨ret_bool HF.out.symm,BB.out⟩
 go_wp2_with (first|((with_reducible refine m_loadR rg1 44 18 ?_ ?_ ?_ ?_ ?_ ?_);rfl;rfl;rfl;rfl;kernel_rfl)|((with_reducible refine m_loadR rg2 44 20 ?_ ?_ ?_ ?_ ?_ ?_);rfl;rfl;rfl;rfl;kernel_rfl)|(go_at_call 80;fail))
 clear rg1 rg2 c0 d0 c1 d1;refine (SC1.out w1 BB.out).mono ?_;rintro e w2 ⟨rfl,hb⟩;have Y2:=qh (X2.out.below hb (by have:=Z.out;omega));have Y3:=qh (X3.out.below hb (by have:=Z.out;omega));have ZZ:=qh (show w.heap.size+1+1≤w2.heap.size by have:=Z.out;have:=hb.size;omega);have BN:=btr BB hb;clear hb X2 X3 Z BB SC1;have X2:=qh Y2.out;have X3:=qh Y3.out;have Z:=qh ZZ.out;have BB:=qh BN.out;clear Y2 Y3 ZZ BN;cases u3
 ·have HF:=qh (show R=false by rw [←HR.out];simp)
  go_wp2_with fail
  go_ret
  exact ⟨ret_bool HF.out.symm,BB.out⟩
 have x2:=X2.out;have x3:=X3.out;have rg1:w2.rangeAt w.heap.size 8 (eC v):=sub_range (c1:=[.int .i64 o,sv nm]++eC d) (c2:=eC v) (c3:=[cs.v,ls.v,fs.v,bs.v,.int .i64 ln]) x2;have rg2:w2.rangeAt (w.heap.size+1) 8 (eC v'):=sub_range (c1:=[.int .i64 o',sv nm']++eC d') (c2:=eC v') (c3:=[cs'.v,ls'.v,fs'.v,bs'.v,.int .i64 ln']) x3;clear x2 x3;go_wp2_with (first|((with_reducible refine m_loadR rg1 44 25 ?_ ?_ ?_ ?_ ?_ ?_);rfl;rfl;rfl;rfl;kernel_rfl)|((with_reducible refine m_loadR rg2 44 27 ?_ ?_ ?_ ?_ ?_ ?_);rfl;rfl;rfl;rfl;kernel_rfl)|(go_at_call 80;fail))
 clear rg1 rg2;refine (SC2.out w2 BB.out).mono ?_;rintro e w3 ⟨rfl,hb⟩;have Y2:=qh (X2.out.below hb (by have:=Z.out;omega));have Y3:=qh (X3.out.below hb (by have:=Z.out;omega));have ZZ:=qh (show w.heap.size+1+1≤w3.heap.size by have:=Z.out;have:=hb.size;omega);have BN:=btr BB hb;clear hb X2 X3 Z BB SC2;have X2:=qh Y2.out;have X3:=qh Y3.out;have Z:=qh ZZ.out;have BB:=qh BN.out;clear Y2 Y3 ZZ BN;cases u4
 ·have HF:=qh (show R=false by rw [←HR.out];simp)
  go_wp2_with fail
  go_ret
  exact ⟨ret_bool HF.out.symm,BB.out⟩
 have cj:w3.cell? ⟨w.heap.size,14,none⟩=some (Sl.v cs):=(X2.out.at' (i:=14) rfl).1;have dj:w3.cell? ⟨w.heap.size+1,14,none⟩=some (Sl.v cs'):=(X3.out.at' (i:=14) rfl).1;go_wp2_with (go_at_call 81;fail)
 clear cj dj;refine (SC3.out w3 BB.out).mono ?_;rintro e w4 ⟨rfl,hb⟩;have Y2:=qh (X2.out.below hb (by have:=Z.out;omega));have Y3:=qh (X3.out.below hb (by have:=Z.out;omega));have ZZ:=qh (show w.heap.size+1+1≤w4.heap.size by have:=Z.out;have:=hb.size;omega);have BN:=btr BB hb;clear hb X2 X3 Z BB SC3;have X2:=qh Y2.out;have X3:=qh Y3.out;have Z:=qh ZZ.out;have BB:=qh BN.out;clear Y2 Y3 ZZ BN;cases u5
 ·have HF:=qh (show R=false by rw [←HR.out];simp)
  go_wp2_with fail
  go_ret
  exact ⟨ret_bool HF.out.symm,BB.out⟩
 have cj:w4.cell? ⟨w.heap.size,15,none⟩=some (Sl.v ls):=(X2.out.at' (i:=15) rfl).1;have dj:w4.cell? ⟨w.heap.size+1,15,none⟩=some (Sl.v ls'):=(X3.out.at' (i:=15) rfl).1;go_wp2_with (go_at_call 82;fail)
 clear cj dj;refine (SC4.out w4 BB.out).mono ?_;rintro e w5 ⟨rfl,hb⟩;have Y2:=qh (X2.out.below hb (by have:=Z.out;omega));have Y3:=qh (X3.out.below hb (by have:=Z.out;omega));have ZZ:=qh (show w.heap.size+1+1≤w5.heap.size by have:=Z.out;have:=hb.size;omega);have BN:=btr BB hb;clear hb X2 X3 Z BB SC4;have X2:=qh Y2.out;have X3:=qh Y3.out;have Z:=qh ZZ.out;have BB:=qh BN.out;clear Y2 Y3 ZZ BN;cases u6
 ·have HF:=qh (show R=false by rw [←HR.out];simp)
  go_wp2_with fail
  go_ret
  exact ⟨ret_bool HF.out.symm,BB.out⟩
 have cj:w5.cell? ⟨w.heap.size,16,none⟩=some (Sl.v fs):=(X2.out.at' (i:=16) rfl).1;have dj:w5.cell? ⟨w.heap.size+1,16,none⟩=some (Sl.v fs'):=(X3.out.at' (i:=16) rfl).1;go_wp2_with (go_at_call 84;fail)
 clear cj dj;refine (SC5.out w5 BB.out).mono ?_;rintro e w6 ⟨rfl,hb⟩;have Y2:=qh (X2.out.below hb (by have:=Z.out;omega));have Y3:=qh (X3.out.below hb (by have:=Z.out;omega));have ZZ:=qh (show w.heap.size+1+1≤w6.heap.size by have:=Z.out;have:=hb.size;omega);have BN:=btr BB hb;clear hb X2 X3 Z BB SC5;have X2:=qh Y2.out;have X3:=qh Y3.out;have Z:=qh ZZ.out;have BB:=qh BN.out;clear Y2 Y3 ZZ BN;cases u7
 ·have HF:=qh (show R=false by rw [←HR.out];simp)
  go_wp2_with fail
  go_ret
  exact ⟨ret_bool HF.out.symm,BB.out⟩
 have cj:w6.cell? ⟨w.heap.size,17,none⟩=some (Sl.v bs):=(X2.out.at' (i:=17) rfl).1;have dj:w6.cell? ⟨w.heap.size+1,17,none⟩=some (Sl.v bs'):=(X3.out.at' (i:=17) rfl).1;go_wp2_with (go_at_call 85;fail)
 clear cj dj;refine (SC6.out w6 BB.out).mono ?_;rintro e w7 ⟨rfl,hb⟩;have Y2:=qh (X2.out.below hb (by have:=Z.out;omega));have Y3:=qh (X3.out.below hb (by have:=Z.out;omega));have ZZ:=qh (show w.heap.size+1+1≤w7.heap.size by have:=Z.out;have:=hb.size;omega);have BN:=btr BB hb;clear hb X2 X3 Z BB SC6;have X2:=qh Y2.out;have X3:=qh Y3.out;have Z:=qh ZZ.out;have BB:=qh BN.out;clear Y2 Y3 ZZ BN;have HF:=qh (show u8=R by rw [←HR.out];simp);go_wp2_with fail
 go_ret
 exact ⟨ret_bool HF.out,BB.out⟩
theorem same_s_all:∀ N,SmS N
 | 0=>fun _ _ h=>absurd h (by omega)
 | N+1=>same_s_step (same_s_all N)
theorem same_sl {La Lb:List St} {sa sb:Sl} {w:World} (h1:StL w w.heap.size sa La) (h2:StL w w.heap.size sb Lb) :
  Calls Tryz.prog 29 #[sa.v,sb.v] w fun e w'=>e=.returned (.bool (stsSame La Lb))∧Below w.heap.size w w':=
 blk_eq (same_s_all (SizeOf.sizeOf La)) (Nat.le_refl _) h1 h2
theorem same_any (p q:Pg) (h h':GH) (w:World) (hp:PgAt w w.heap.size p h) (hq:PgAt w w.heap.size q h'):Calls Tryz.prog 12 #[.agg (gC h).toArray,.agg (gC h').toArray] w fun e w'=>e=.returned (.bool (pgSame p q))∧Below w.heap.size w w':=by
 obtain ⟨nm,vs,bd⟩:=h;obtain ⟨nm',vs',bd'⟩:=h';obtain ⟨pn,pv,pb⟩:=p;obtain ⟨qn,qv,qb⟩:=q;obtain ⟨e1,hv1,hb1⟩:=hp;obtain ⟨e2,hv2,hb2⟩:=hq;simp only at e1 e2 hv1 hv2 hb1 hb2;subst e1 e2;obtain ⟨u1,hu1⟩:∃ u,(nm==nm')=u:=⟨_,rfl⟩;obtain ⟨u2,hu2⟩:∃ u,vasSame pv qv=u:=⟨_,rfl⟩;obtain ⟨u3,hu3⟩:∃ u,stsSame pb qb=u:=⟨_,rfl⟩;obtain ⟨R,hR⟩:∃ R,pgSame ⟨nm,pv,pb⟩ ⟨nm',qv,qb⟩=R:=⟨_,rfl⟩;rw [hR];unfold pgSame at hR;simp only [hu1,hu2,hu3] at hR;have HR:=qh hR;clear hR;have SC1:=qh (show ∀ W,Below w.heap.size w W→Calls Tryz.prog 27 #[vs.v,vs'.v,.func (.func 28) #[] #[]] W fun e w'=>e=.returned (.bool u2)∧Below W.heap.size W w' from fun W hW=>by
  have h:=same_vl (hv1.below hW hW.size) (hv2.below hW hW.size);rw [hu2] at h;exact h)
 have SC2:=qh (show ∀ W,Below w.heap.size w W→Calls Tryz.prog 29 #[bd.v,bd'.v] W fun e w'=>e=.returned (.bool u3)∧Below W.heap.size W w' from fun W hW=>by
  have h:=same_sl (hb1.below hW hW.size) (hb2.below hW hW.size);rw [hu3] at h;exact h)
 clear hv1 hv2 hb1 hb2 hu2 hu3;obtain ⟨xs,hxs⟩:∃ z,(⟨nm.toArray⟩:ByteArray)=z:=⟨_,rfl⟩;obtain ⟨ys,hys⟩:∃ z,(⟨nm'.toArray⟩:ByteArray)=z:=⟨_,rfl⟩;have t2:(xs.toList==ys.toList)=u1:=by rw [←hxs,←hys,ByteArray.toList_eq,ByteArray.toList_eq];exact hu1
 clear hu1;obtain ⟨C1,hC1⟩:∃ C,(gC ⟨nm,vs,bd⟩).toArray=C:=⟨_,rfl⟩;obtain ⟨C2,hC2⟩:∃ C,(gC ⟨nm',vs',bd'⟩).toArray=C:=⟨_,rfl⟩;rw [hC1,hC2];go_enter Tryz.func12,Tryz.ntmps12
 go_upto_region 1 with (fail)
 obtain ⟨w1,e1,x2,x3,b1,z1⟩:=two_new w C1 C2 25 25;rw [e1];rw [←hC1] at x2;rw [←hC2] at x3;have x2:Box w1 w.heap.size 0 (gC ⟨nm,vs,bd⟩):=x2;have x3:Box w1 (w.heap.size+1) 0 (gC ⟨nm',vs',bd'⟩):=x3;have BB:=qh b1;have X2:=qh x2;have X3:=qh x3;have Z:=qh z1;have c0:w1.cell? ⟨w.heap.size,0,none⟩=some (.string xs):=by rw [←hxs];exact x2.1
 have d0:w1.cell? ⟨w.heap.size+1,0,none⟩=some (.string ys):=by rw [←hys];exact x3.1
 have c1:w1.cell? ⟨w.heap.size,1,none⟩=some (Sl.v vs):=x2.2.2.1;have d1:w1.cell? ⟨w.heap.size+1,1,none⟩=some (Sl.v vs'):=x3.2.2.1;clear e1 x2 x3 b1 z1 hxs hys hC1 hC2;cases u1
 ·have HF:=qh (show R=false by rw [←HR.out];simp)
  go_wp2_with fail
  go_ret
  exact ⟨ret_bool HF.out.symm,BB.out⟩
 go_wp2_with (go_at_call 27;fail)
 clear c0 d0 c1 d1;refine (SC1.out w1 BB.out).mono ?_;rintro e w2 ⟨rfl,hb⟩;have Y2:=qh (X2.out.below hb (by have:=Z.out;omega));have Y3:=qh (X3.out.below hb (by have:=Z.out;omega));have ZZ:=qh (show w.heap.size+1+1≤w2.heap.size by have:=Z.out;have:=hb.size;omega);have BN:=btr BB hb;clear hb X2 X3 Z BB SC1;have X2:=qh Y2.out;have X3:=qh Y3.out;have Z:=qh ZZ.out;have BB:=qh BN.out;clear Y2 Y3 ZZ BN;cases u2
 ·have HF:=qh (show R=false by rw [←HR.out];simp)
  go_wp2_with fail
  go_ret
  exact ⟨ret_bool HF.out.symm,BB.out⟩
 have c2:w2.cell? ⟨w.heap.size,2,none⟩=some (Sl.v bd):=(X2.out.at' (i:=2) rfl).1;have d2:w2.cell? ⟨w.heap.size+1,2,none⟩=some (Sl.v bd'):=(X3.out.at' (i:=2) rfl).1;go_wp2_with (go_at_call 29;fail)
 clear c2 d2;refine (SC2.out w2 BB.out).mono ?_;rintro e w3 ⟨rfl,hb⟩;have Y2:=qh (X2.out.below hb (by have:=Z.out;omega));have Y3:=qh (X3.out.below hb (by have:=Z.out;omega));have ZZ:=qh (show w.heap.size+1+1≤w3.heap.size by have:=Z.out;have:=hb.size;omega);have BN:=btr BB hb;clear hb X2 X3 Z BB SC2;have X2:=qh Y2.out;have X3:=qh Y3.out;have Z:=qh ZZ.out;have BB:=qh BN.out;clear Y2 Y3 ZZ BN;have HF:=qh (show u3=R by rw [←HR.out];simp);go_wp2_with fail
 go_ret
 exact ⟨ret_bool HF.out,BB.out⟩
end tr
end Go.Proofs.YtdefgghhkknnpaaGreatDoor

/- The landed parser's variables: those of a line get their type and value. No condition but what each line says. -/
import Derived.Test.YtdefgghhkknnpaaGreatDoorE24
set_option linter.unusedVariables false
set_option linter.unusedSimpArgs false
set_option maxRecDepth 100000
set_option maxHeartbeats 40000000
namespace Go.Proofs.YtdefgghhkknnpaaGreatDoor
namespace tr
open ChangeShapes WideShapes ChangeAt RowKit k rr tk
theorem type_pos {r r':Sg} {ty:Int×Bool×Int×Int} (h:typeP r=.ok ty r'):1≤ty.1:=by
 have hk:∀ s,kindOf s≠0→1≤kindOf s:=by
  intro s;unfold kindOf;split
  ·rename_i k hk
   have:=List.mem_of_find?_eq_some hk;unfold kinds at this;simp only [List.mem_cons,List.not_mem_nil,or_false] at this;rcases this with rfl|rfl|rfl|rfl|rfl|rfl|rfl|rfl|rfl|rfl|rfl|rfl|rfl|rfl|rfl|rfl|rfl|rfl|rfl|rfl|rfl<;>decide
  ·intro h;exact absurd rfl h
 have hs:∀ q,simpleT q≠0→1≤simpleT q:=by
  intro q;unfold simpleT;split
  ·decide
  ·split
   ·decide
   ·intro h;exact absurd rfl h
 unfold typeP at h;split at h
 ·rename_i h0
  cases h
  exact hs r h0
 ·split at h
  ·obtain ⟨_,r1,_,h⟩:=bind_ok h
   obtain ⟨lo,r2,_,h⟩:=bind_ok h;obtain ⟨_,r3,_,h⟩:=bind_ok h;obtain ⟨hi,r4,_,h⟩:=bind_ok h;split at h
   ·cases h
   ·obtain ⟨_,r5,_,h⟩:=bind_ok h
    obtain ⟨_,r6,_,h⟩:=bind_ok h;split at h
    ·rename_i h0
     cases h
     exact hs _ h0
    ·cases h
  ·obtain ⟨t,r1,_,h⟩:=bind_ok h
   split at h
   ·cases h
   ·rename_i h0
    cases h
    exact hk _ h0
section
variable {r:Sg} {V:Value} {d g:Nat} {w:World}
theorem typed_any {b N cap cap2:Nat} (hP:Par w g r (.slice (some ⟨b,0,none⟩) N cap) d) (hr:RowOk r) {vs ns:List Va} (hO:Ow vC 8 60 w (g+1) (.slice (some ⟨b,0,none⟩) N cap) (vs++ns)) (hlen:vs.length+ns.length≤64) :
  Calls Tryz.prog 114 #[.pointer (some ⟨g,0,none⟩),.slice (some ⟨b,vs.length*8,none⟩) ns.length cap2] w (GvV g d (.slice (some ⟨b,0,none⟩) N cap) w ((typQ r).bind fun x r'=>.ok (vs++ns.map (updV x.1 x.2)) r')):=by
 obtain ⟨R,hR⟩:∃ R:Res (List Va),((typQ r).bind fun x r'=>.ok (vs++ns.map (updV x.1 x.2)) r')=R:=⟨_,rfl⟩;rw [hR];have HR:=qh hR;clear hR;have O1:=qh hO;have HB:=qh (Ow.lt hO (q:=b) rfl);have OB:=qh (show (Value.slice (some ⟨b,0,none⟩) N cap).ownBlock=some b from rfl);have HLN:=qh hlen;clear hO hlen;have P1:=qh hP;have G1:=qh (Fr.refl g (.slice (some ⟨b,0,none⟩) N cap) w);have R1:=qh hr;have Z1:=qh (show g<w.heap.size from hP.lt);clear hP hr;have hq:=HR.out;unfold typQ at hq;simp only [bind_bind,bind_okE] at hq;have HR2:=qh hq;clear hq HR;have Z3:=qh (And.intro (show b<w.heap.size from HB.out.2) Z1.out);have Z4:=qh (And.intro (show g+1≤b from HB.out.1) Z3.out);go_enter Tryz.func114,Tryz.ntmps114
 go_wp2_with (go_at_call 74;fail)
 refine (next_any P1.out R1.out).mono ?_;rintro e w4 ⟨rfl,hb⟩;have hg:=gr_of (row:=some w.heap.size) hb;have O5:=qh (Ow.gr2 O1.out hg (by rw [OB.out];intro e0;injection e0 with e0;have z:=Z4.out;omega));clear O1;have P6:=pgq hg Z4 P1;clear P1;have G7:=qh (G1.out.step hg (.inr (.inr (qq Z4))));clear G1;have Z8:=hzz hg Z4;clear hg hb;go_upto_region 1 with ((with_reducible refine m_new 34 4 11 ?_ ?_ ?_ (tC (tr.hd r)) ?_ ?_ ?_ ?_ (tC_one _) ?_);rfl;rfl;rfl;rfl;rfl;rfl;kernel_rfl;intro w5 hx hb hz)
 have hg:=gr_of (row:=some w4.heap.size) hb;have Z9:=qh (And.intro hz Z8.out);have X10:=qh hx;clear hb hx hz;have O11:=qh (Ow.gr2 O5.out hg (by rw [OB.out];intro e0;injection e0 with e0;have z:=Z8.out;omega));clear O5;replace P6:=pgq hg Z8 P6;have G13:=qh (G7.out.step hg (.inr (.inr (qq Z8))));clear G7;have Z14:=hzz hg Z9;clear hg;have KC:=qh fun W (h:Par W g r (.slice (some ⟨b,0,none⟩) N cap) d)=>kind_any h R1.out
 go_wp2_with (go_at_call 140;fail)
 refine (KC.out _ P6.out).mono ?_;rintro e w6 hgv;rcases hp:typeP r with ⟨ty,r1⟩|⟨n9,t9⟩
 rotate_left
 ·rw [hp] at hgv
  obtain ⟨rfl,hg⟩:=hgv;have hq:=HR2.out;rw [hp] at hq;go_wp2;exact ⟨rfl,GvV.badOf hq.symm (G13.out.step hg (.inl rfl))⟩
 rw [hp] at hgv;obtain ⟨⟨v9,rfl,hG⟩,hP9,hr9,hg⟩:=hgv;have hq:=HR2.out;rw [hp] at hq;try rw [bind_okE] at hq
 have HR15:=qh hq;clear hq HR2;have P16:=qh hP9;have R17:=qh hr9;replace X10:=hbq hg Z14 X10;have O19:=qh (Ow.gr2 O11.out hg (by rw [OB.out];intro e0;injection e0 with e0;have z:=Z14.out;omega));clear O11 P6;have G20:=qh (G13.out.step hg (.inl rfl));clear G13;have Z21:=hzz hg Z14;clear hg hP9 hr9 R1;obtain rfl:=hG;have TP:=qh (type_pos hp);clear hp KC;go_upto_region 2 with ((with_reducible refine m_new 60 5 13 ?_ ?_ ?_ (vC ⟨[],ty.1,0,ty.2.1,ty.2.2.1,ty.2.2.2,0,0⟩) ?_ ?_ ?_ ?_ (vC_one _) ?_);rfl;rfl;rfl;rfl;rfl;rfl;kernel_rfl;intro w7 hx hb hz)
 have hg:=gr_of (row:=some w6.heap.size) hb;have Z22:=qh (And.intro hz Z21.out);have X23:=qh hx;clear hb hx hz;replace X10:=hbq hg Z21 X10;have O25:=qh (Ow.gr2 O19.out hg (by rw [OB.out];intro e0;injection e0 with e0;have z:=Z21.out;omega));clear O19;replace P16:=pgq hg Z21 P16;have G27:=qh (G20.out.step hg (.inr (.inr (qq Z21))));clear G20;have Z28:=hzz hg Z22;clear hg;obtain ⟨ty1,ta,tlo,thi⟩:=ty;by_cases hw:txt r1=[58,61]
 ·skip
  have hq:=HR15.out;rw [if_pos hw] at hq;simp only [bind_bind] at hq;have HR29:=qh hq;clear hq HR15;have R30:=qh (R17.out.drop (txt_kind hw (by decide)));go_wp2_with (go_at_call 76;fail)
  refine (take_yes P16.out R17.out (hyq R17 hw) (txt_kind hw (by decide))).mono ?_;rintro e w8 ⟨rfl,hp,hg⟩;have P31:=qh hp;replace X10:=hbq hg Z28 X10;replace X23:=hbq hg Z28 X23;have O34:=qh (Ow.gr2 O25.out hg (by rw [OB.out];intro e0;injection e0 with e0;have z:=Z28.out;omega));clear O25 P16;have G35:=qh (G27.out.step hg (.inl rfl));clear G27;have Z36:=hzz hg Z28;clear hg hp R17;generalize ((r1).drop 1)=r37 at *;have VC:=qh fun W (h:Par W g r37 (.slice (some ⟨b,0,none⟩) N cap) d)=>value_any h R30.out
  go_wp2_with (go_at_call 141;fail)
  refine (VC.out _ P31.out).mono ?_;rintro e w9 hgv;rcases hp:valueP r37 with ⟨v1,r2⟩|⟨n9,t9⟩
  rotate_left
  ·rw [hp] at hgv
   obtain ⟨rfl,hg⟩:=hgv;have hq:=HR29.out;rw [hp] at hq;go_wp2;exact ⟨rfl,GvV.badOf hq.symm (G35.out.step hg (.inl rfl))⟩
  rw [hp] at hgv;obtain ⟨⟨v9,rfl,hG⟩,hP9,hr9,hg⟩:=hgv;have hq:=HR29.out;rw [hp] at hq;try rw [bind_okE] at hq
  have HR38:=qh hq;clear hq HR29;have P39:=qh hP9;have R40:=qh hr9;replace X10:=hbq hg Z36 X10;replace X23:=hbq hg Z36 X23;have O43:=qh (Ow.gr2 O34.out hg (by rw [OB.out];intro e0;injection e0 with e0;have z:=Z36.out;omega));clear O34 P31;have G44:=qh (G35.out.step hg (.inl rfl));clear G35;have Z45:=hzz hg Z36;clear hg hP9 hr9 R30;obtain rfl:=hG;obtain ⟨vb,vn⟩:=v1;clear hp VC;by_cases hbad:ta=true∨2<ty1∨(vb=true∧ty1=1)∨(vb=false∧ty1=2)
  ·skip
   have hq:=HR38.out;rw [if_pos hbad] at hq;have HR46:=qh hq;clear hq HR38;have hpos:=TP.out;have ⟨c3,_⟩:=cell_of X23.out (i:=3) rfl;have ⟨c1,_⟩:=cell_of X23.out (i:=1) rfl;have q1:ta=false→((ty1:Int) != (if vb=true then 2 else 1))=true:=by
    intro ht;rw [bne_iff_ne];have hpos:1≤ty1:=hpos;rcases hbad with h|h|⟨h,h2⟩|⟨h,h2⟩
    ·rw [ht] at h;cases h
    ·split<;>omega
    ·rw [h,h2];decide
    ·rw [h,h2];decide
   clear hbad hpos;generalize (if vb=true then (2:Int) else 1)=kv at *;cases ta
   ·skip
    have q2:=q1 rfl;clear q1;go_wp2_with (first|((with_reducible refine m_load X10.out 34 4 ?_ ?_ ?_ ?_ ?_ ?_);rfl;rfl;rfl;rfl;kernel_rfl)|(go_at_call 73;fail))
    refine (fail_any 1 (tr.hd r) _).mono ?_;rintro e wz ⟨rfl,hb⟩;go_wp2;exact ⟨rfl,GvV.badOf HR46.out.symm (G44.out.step (gr_of (row:=some w9.heap.size) hb) (.inr (.inr (qq Z45))))⟩
   ·skip
    clear q1;go_wp2_with (first|((with_reducible refine m_load X10.out 34 4 ?_ ?_ ?_ ?_ ?_ ?_);rfl;rfl;rfl;rfl;kernel_rfl)|(go_at_call 73;fail))
    refine (fail_any 1 (tr.hd r) _).mono ?_;rintro e wz ⟨rfl,hb⟩;go_wp2;exact ⟨rfl,GvV.badOf HR46.out.symm (G44.out.step (gr_of (row:=some w9.heap.size) hb) (.inr (.inr (qq Z45))))⟩
  ·skip
   have hq:=HR38.out;rw [if_neg hbad] at hq;simp only [bind_okE] at hq;have HR46:=qh hq;clear hq HR38;have hpos:1≤ty1:=TP.out;obtain rfl:ta=false:=by cases ta<;>simp_all
   have ⟨c3,_⟩:=cell_of X23.out (i:=3) rfl;have ⟨c1,_⟩:=cell_of X23.out (i:=1) rfl;have ⟨c6,k6⟩:=cell_of X23.out (i:=6) rfl;have q1:((ty1:Int) != (if vb=true then 2 else 1))=false:=by
    have h1:¬ (2<ty1):=fun h=>hbad (.inr (.inl h))
    have h2:¬ (vb=true∧ty1=1):=fun h=>hbad (.inr (.inr (.inl h)))
    have h3:¬ (vb=false∧ty1=2):=fun h=>hbad (.inr (.inr (.inr h)))
    rw [bne_eq_false_iff_eq];cases vb
    ·simp at h3 ⊢;omega
    ·simp at h2 ⊢;omega
   clear hbad hpos;generalize (if vb=true then (2:Int) else 1)=kv at *;go_upto_region 7 with (fail)
   clear c3 c1 c6 k6 q1;have hg:=gr_set w9 (w6.heap.size) 6 (.int .i64 vn);have hx:Box (w9.setCell ⟨w6.heap.size,6,none⟩ (.int .i64 vn)) (w6.heap.size) 0 (vC ⟨[],ty1,0,false,tlo,thi,vn,0⟩):=Box.put X23.out 6 (show 6<8 by decide) (.int .i64 vn);have hs:(w9.setCell ⟨w6.heap.size,6,none⟩ (.int .i64 vn)).heap.size=w9.heap.size:=set_size _ _ _;generalize w9.setCell ⟨w6.heap.size,6,none⟩ (.int .i64 vn)=w10 at *;have X47:=qh hx;have Z48:=qh (And.intro hs Z45.out);clear hx hs X23;replace X10:=hbq hg Z45 X10;have O50:=qh (Ow.gr2 O43.out hg (by rw [OB.out];intro e0;injection e0 with e0;have z:=Z45.out;omega));clear O43;replace P39:=pgq hg Z45 P39;have G52:=qh (G44.out.step hg (.inr (.inr (qq Z45))));clear G44;have Z53:=hzz hg Z48;clear hg;obtain ⟨ta,hta⟩:∃ ta,ta=false:=⟨_,rfl⟩;skip
   go_upto_region 8 with (fail)
   go_loopw [35] (fun s35 wr=>∃ j:Nat,j≤ns.length∧s35=.int .i64 j∧Par wr g r2 (.slice (some ⟨b,0,none⟩) N cap) d∧Box wr w6.heap.size 0 (vC ⟨[],ty1,0,false,tlo,thi,vn,0⟩)∧Ow vC 8 60 wr (g+1) (.slice (some ⟨b,0,none⟩) N cap) (vs++((ns.take j).map (updV (ty1,false,tlo,thi) vn)++ns.drop j))∧Fr g (.slice (some ⟨b,0,none⟩) N cap) w wr∧w6.heap.size<wr.heap.size) (fun i _=>ns.length-(intOf i).toNat)
   case atStart=>exact ⟨0,Nat.zero_le _,rfl,P39.out,X47.out,by simpa using O50.out,G52.out,(qq Z53)⟩
   case round=>
    obtain ⟨j,hj,rfl,hP',hX',hO',hG',hS'⟩:=hrel;clear P39 G52 X10 X47 O50;have P1:=qh hP';have X1:=qh hX';have O1:=qh hO';have G1:=qh hG';have ZS:=qh (And.intro hS' Z53.out);clear hP' hX' hO' hG' hS';have w1:IntKind.i64.wrap ((j:Int)+1)=j+1:=by rw [IntKind.wrap_i64];have:=HLN.out;omega
    by_cases hlt:j<ns.length
    ·skip
     obtain ⟨x,hx⟩:∃ x,ns[j]?=some x:=⟨_,List.getElem?_eq_getElem hlt⟩;have HX:=qh hx;have hz:(j:Int)<ns.length:=by omega
     clear hx;have HAT:=qh (show (vs++((ns.take j).map (updV (ty1,false,tlo,thi) vn)++ns.drop j))[vs.length+j]?=some x by
      rw [List.getElem?_append_right (Nat.le_add_right _ _),Nat.add_sub_cancel_left,List.getElem?_append_right (by rw [List.length_map,List.length_take];omega),List.length_map,List.length_take,Nat.min_eq_left (by omega),Nat.sub_self,List.getElem?_drop,Nat.add_zero];exact HX.out)
     have HSET:=qh (show (vs++((ns.take j).map (updV (ty1,false,tlo,thi) vn)++ns.drop j)).set (vs.length+j) (updV (ty1,false,tlo,thi) vn x)=vs++((ns.take (j+1)).map (updV (ty1,false,tlo,thi) vn)++ns.drop (j+1)) by
      have hx:=HX.out;obtain ⟨h1,h2⟩:=List.getElem?_eq_some_iff.1 hx;rw [List.set_append_right _ _ (Nat.le_add_right _ _),Nat.add_sub_cancel_left,List.set_append_right _ _ (by rw [List.length_map,List.length_take];omega),List.length_map,List.length_take,Nat.min_eq_left (by omega),Nat.sub_self];rw [List.drop_eq_getElem_cons h1,List.set_cons_zero,List.take_succ_eq_append_getElem h1,List.map_append,List.append_assoc,h2];rfl)
     generalize (vs++((ns.take j).map (updV (ty1,false,tlo,thi) vn)++ns.drop j))=L at *;go_upto_region 11 with (fail)
     refine wp_region_T (by kernel_rfl) (fun w'=>Box w' (w6.heap.size) 0 (vC ⟨[],ty1,0,false,tlo,thi,vn,0⟩)) [] (box_drew X1.out) (fun hHeld=>?_);have hb:=(Below.refl wr.heap.size wr).drew;generalize wr.drew=w11 at *;have hg:=gr_of (row:=some wr.heap.size) hb;have X301:=hbq hg ZS X1;clear X1;have O302:=qh (Ow.gr2 O1.out hg (by rw [OB.out];intro e0;injection e0 with e0;have z:=ZS.out;omega));clear O1;have P303:=pgq hg ZS P1;clear P1;have G304:=qh (G1.out.step hg (.inr (.inr (qq ZS))));clear G1;have Z305:=hzz hg ZS;clear hg hb;refine tkr (i:=0) rfl ?_;try simp only [lq0,lq7,lq1,lq2,lq3,lq4,lq5,lq6]
     refine tkr (i:=5) rfl ?_;try simp only [lq0,lq7,lq1,lq2,lq3,lq4,lq5,lq6]
     refine tkq (i:=6) (v:=?_) rfl ?_ ?_;rotate_left 1
     ·intro w_ hSw;obtain ⟨c1,_⟩:=cell_of hSw (i:=1) rfl;go_simp<;>(with_reducible rfl)
     try simp only [lq0,lq7,lq1,lq2,lq3,lq4,lq5,lq6]
     refine tkr (i:=1) rfl ?_;try simp only [lq0,lq7,lq1,lq2,lq3,lq4,lq5,lq6]
     refine tkr (i:=2) rfl ?_;try simp only [lq0,lq7,lq1,lq2,lq3,lq4,lq5,lq6]
     refine tkr (i:=3) rfl ?_;try simp only [lq0,lq7,lq1,lq2,lq3,lq4,lq5,lq6]
     refine tkr (i:=4) rfl ?_;try simp only [lq0,lq7,lq1,lq2,lq3,lq4,lq5,lq6]
     refine tkr (i:=7) rfl ?_;try simp only [lq0,lq7,lq1,lq2,lq3,lq4,lq5,lq6]
     refine tkq (i:=8) (v:=?_) rfl ?_ ?_;rotate_left 1
     ·intro w_ hSw;obtain ⟨c3,_⟩:=cell_of hSw (i:=3) rfl;go_simp<;>(with_reducible rfl)
     try simp only [lq0,lq7,lq1,lq2,lq3,lq4,lq5,lq6]
     refine tkr (i:=9) rfl ?_;try simp only [lq0,lq7,lq1,lq2,lq3,lq4,lq5,lq6]
     refine tkq (i:=10) (v:=?_) rfl ?_ ?_;rotate_left 1
     ·intro w_ hSw;obtain ⟨c4,_⟩:=cell_of hSw (i:=4) rfl;go_simp<;>(with_reducible rfl)
     try simp only [lq0,lq7,lq1,lq2,lq3,lq4,lq5,lq6]
     refine tkr (i:=11) rfl ?_;try simp only [lq0,lq7,lq1,lq2,lq3,lq4,lq5,lq6]
     refine tkq (i:=12) (v:=?_) rfl ?_ ?_;rotate_left 1
     ·intro w_ hSw;obtain ⟨c5,_⟩:=cell_of hSw (i:=5) rfl;go_simp<;>(with_reducible rfl)
     try simp only [lq0,lq7,lq1,lq2,lq3,lq4,lq5,lq6]
     refine tkr (i:=13) rfl ?_;try simp only [lq0,lq7,lq1,lq2,lq3,lq4,lq5,lq6]
     refine tkq (i:=14) (v:=?_) rfl ?_ ?_;rotate_left 1
     ·intro w_ hSw;obtain ⟨c6,_⟩:=cell_of hSw (i:=6) rfl;go_simp<;>(with_reducible rfl)
     try simp only [lq0,lq7,lq1,lq2,lq3,lq4,lq5,lq6]
     refine tkr (i:=15) rfl ?_;try simp only [lq0,lq7,lq1,lq2,lq3,lq4,lq5,lq6]
     refine tkr (i:=16) rfl ?_;try simp only [lq0,lq7,lq1,lq2,lq3,lq4,lq5,lq6]
     refine wpAnyT_ready (rs:=[17]) (by kernel_rfl) (by simp) ?_;refine AllReadyT.cons rfl (fun K hK=>?_) AllReadyT.nil;refine t_setrow vC_len O302.out (vs.length+j) 1 ({x with type:=ty1}) (.int .i64 ty1) HAT.out (by decide) rfl (ow_free O302.out) 3 57 47 (vs.length*8+j*8+1) (by omega) rfl rfl rfl rfl rfl rfl (by kernel_rfl) ?_;intro w12 hO hg hs;have HO:=qh hO;have HS:=qh hs;clear hO hs;have X307:=hbq hg Z305 X301;clear X301;have P308:=pgq hg Z305 P303;clear P303;have G309:=qh (G304.out.step hg (.inr (.inl rfl)));clear G304;have Z310:=hzz hg Z305;have Z306:=HS;clear HS hg;have O311:=HO;clear O302 HO;refine hK.out _ _ X307.out (fun hHeld=>?_);clear hK K;try simp only [lq0,lq7,lq1,lq2,lq3,lq4,lq5,lq6]
     refine tkr (i:=18) rfl ?_;try simp only [lq0,lq7,lq1,lq2,lq3,lq4,lq5,lq6]
     refine tkr (i:=19) rfl ?_;try simp only [lq0,lq7,lq1,lq2,lq3,lq4,lq5,lq6]
     refine wpAnyT_ready (rs:=[20]) (by kernel_rfl) (by simp) ?_;refine AllReadyT.cons rfl (fun K hK=>?_) AllReadyT.nil;refine t_setrow vC_len O311.out (vs.length+j) 3 ({({x with type:=ty1}) with array:=false}) (.bool false) (List.getElem?_set_self (by have:=(List.getElem?_eq_some_iff.1 HAT.out).1;simpa using this)) (by decide) rfl (ow_free O311.out) 4 59 49 (vs.length*8+j*8+3) (by omega) rfl rfl rfl rfl rfl rfl (by kernel_rfl) ?_;intro w13 hO hg hs;have HO:=qh hO;have HS:=qh hs;clear hO hs;have X313:=hbx hg (by have z306:=Z306.out;have z:=Z310.out;omega) X307;clear X307;have P314:=qh (P308.out.gr hg (by have z306:=Z306.out;have z:=Z310.out;omega));clear P308;have G315:=qh (G309.out.step hg (.inr (.inl rfl)));clear G309;have Z316:=hzz hg Z310;have Z312:=HS;clear HS hg;have O317:=HO;clear O311 HO;refine hK.out _ _ X313.out (fun hHeld=>?_);clear hK K;try simp only [lq0,lq7,lq1,lq2,lq3,lq4,lq5,lq6]
     refine tkr (i:=21) rfl ?_;try simp only [lq0,lq7,lq1,lq2,lq3,lq4,lq5,lq6]
     refine tkr (i:=22) rfl ?_;try simp only [lq0,lq7,lq1,lq2,lq3,lq4,lq5,lq6]
     refine wpAnyT_ready (rs:=[23]) (by kernel_rfl) (by simp) ?_;refine AllReadyT.cons rfl (fun K hK=>?_) AllReadyT.nil;refine t_setrow vC_len O317.out (vs.length+j) 4 ({({({x with type:=ty1}) with array:=false}) with lo:=tlo}) (.int .i64 tlo) (List.getElem?_set_self (by have:=(List.getElem?_eq_some_iff.1 HAT.out).1;simpa using this)) (by decide) rfl (ow_free O317.out) 2 61 51 (vs.length*8+j*8+4) (by omega) rfl rfl rfl rfl rfl rfl (by kernel_rfl) ?_;intro w14 hO hg hs;have HO:=qh hO;have HS:=qh hs;clear hO hs;have X319:=hbx hg (by have z306:=Z306.out;have z312:=Z312.out;have z:=Z316.out;omega) X313;clear X313;have P320:=qh (P314.out.gr hg (by have z306:=Z306.out;have z312:=Z312.out;have z:=Z316.out;omega));clear P314;have G321:=qh (G315.out.step hg (.inr (.inl rfl)));clear G315;have Z322:=hzz hg Z316;have Z318:=HS;clear HS hg;have O323:=HO;clear O317 HO;refine hK.out _ _ X319.out (fun hHeld=>?_);clear hK K;try simp only [lq0,lq7,lq1,lq2,lq3,lq4,lq5,lq6]
     refine tkr (i:=24) rfl ?_;try simp only [lq0,lq7,lq1,lq2,lq3,lq4,lq5,lq6]
     refine tkr (i:=25) rfl ?_;try simp only [lq0,lq7,lq1,lq2,lq3,lq4,lq5,lq6]
     refine wpAnyT_ready (rs:=[26]) (by kernel_rfl) (by simp) ?_;refine AllReadyT.cons rfl (fun K hK=>?_) AllReadyT.nil;refine t_setrow vC_len O323.out (vs.length+j) 5 ({({({({x with type:=ty1}) with array:=false}) with lo:=tlo}) with hi:=thi}) (.int .i64 thi) (List.getElem?_set_self (by have:=(List.getElem?_eq_some_iff.1 HAT.out).1;simpa using this)) (by decide) rfl (ow_free O323.out) 2 63 53 (vs.length*8+j*8+5) (by omega) rfl rfl rfl rfl rfl rfl (by kernel_rfl) ?_;intro w15 hO hg hs;have HO:=qh hO;have HS:=qh hs;clear hO hs;have X325:=hbx hg (by have z306:=Z306.out;have z312:=Z312.out;have z318:=Z318.out;have z:=Z322.out;omega) X319;clear X319;have P326:=qh (P320.out.gr hg (by have z306:=Z306.out;have z312:=Z312.out;have z318:=Z318.out;have z:=Z322.out;omega));clear P320;have G327:=qh (G321.out.step hg (.inr (.inl rfl)));clear G321;have Z328:=hzz hg Z322;have Z324:=HS;clear HS hg;have O329:=HO;clear O323 HO;refine hK.out _ _ X325.out (fun hHeld=>?_);clear hK K;try simp only [lq0,lq7,lq1,lq2,lq3,lq4,lq5,lq6]
     refine tkr (i:=27) rfl ?_;try simp only [lq0,lq7,lq1,lq2,lq3,lq4,lq5,lq6]
     refine tkr (i:=28) rfl ?_;try simp only [lq0,lq7,lq1,lq2,lq3,lq4,lq5,lq6]
     refine wpAnyT_ready (rs:=[29]) (by kernel_rfl) (by simp) ?_;refine AllReadyT.cons rfl (fun K hK=>?_) AllReadyT.nil;refine t_setrow vC_len O329.out (vs.length+j) 6 ({({({({({x with type:=ty1}) with array:=false}) with lo:=tlo}) with hi:=thi}) with init:=vn}) (.int .i64 (vn)) (List.getElem?_set_self (by have:=(List.getElem?_eq_some_iff.1 HAT.out).1;simpa using this)) (by decide) rfl (ow_free O329.out) 2 65 55 (vs.length*8+j*8+6) (by omega) rfl rfl rfl rfl rfl rfl (by kernel_rfl) ?_;intro w16 hO hg hs;have HO:=qh hO;have HS:=qh hs;clear hO hs;have X331:=hbx hg (by have z306:=Z306.out;have z312:=Z312.out;have z318:=Z318.out;have z324:=Z324.out;have z:=Z328.out;omega) X325;clear X325;have P332:=qh (P326.out.gr hg (by have z306:=Z306.out;have z312:=Z312.out;have z318:=Z318.out;have z324:=Z324.out;have z:=Z328.out;omega));clear P326;have G333:=qh (G327.out.step hg (.inr (.inl rfl)));clear G327;have Z334:=hzz hg Z328;have Z330:=HS;clear HS hg;have O335:=HO;clear O329 HO;refine hK.out _ _ X331.out (fun hHeld=>?_);clear hK K;try simp only [lq0,lq7,lq1,lq2,lq3,lq4,lq5,lq6]
     refine wpAnyT_done (by kernel_rfl) ?_ _;have HOF:=qh (show Ow vC 8 60 w16 (g+1) (.slice (some ⟨b,0,none⟩) N cap) (L.set (vs.length+j) (updV (ty1,false,tlo,thi) vn x)) by
      have h9:=O335.out;simp only [List.set_set] at h9;exact h9)
     rw [HSET.out] at HOF;go_wp2_with fail
     go_roundw
     case rel=>exact ⟨j+1,by omega,by go_num,P332.out,X331.out,HOF.out,G333.out,(by have z306:=Z306.out;have z312:=Z312.out;have z318:=Z318.out;have z324:=Z324.out;have z330:=Z330.out;have z:=Z334.out;omega)⟩
     case measure=>simp [intOf];omega
    ·skip
     have ej:j=ns.length:=by omega
     have hz:¬ (j:Int)<ns.length:=by omega
     have HOF:=qh (show Ow vC 8 60 wr (g+1) (.slice (some ⟨b,0,none⟩) N cap) (vs++ns.map (updV (ty1,false,tlo,thi) vn)) by
      have h9:=O1.out;rw [ej,List.take_length,List.drop_length,List.append_nil] at h9;exact h9)
     clear ej O1;go_wp2_with fail
     refine end0 rfl rfl ?_;exact GvV.okOf HR46.out.symm R40.out G1.out (LinkV.refl _ _) P1.out HOF.out
 ·skip
  have hq:=HR15.out;rw [if_neg hw] at hq;simp only [bind_okE] at hq;have HR29:=qh hq;clear hq HR15;go_wp2_with (go_at_call 76;fail)
  refine (take_no P16.out R17.out (hnq R17 hw)).mono ?_;rintro e w8 ⟨rfl,hb⟩;have hg:=gr_of (row:=some w7.heap.size) hb;replace X10:=hbq hg Z28 X10;replace X23:=hbq hg Z28 X23;have O32:=qh (Ow.gr2 O25.out hg (by rw [OB.out];intro e0;injection e0 with e0;have z:=Z28.out;omega));clear O25;replace P16:=pgq hg Z28 P16;have G34:=qh (G27.out.step hg (.inr (.inr (qq Z28))));clear G27;have Z35:=hzz hg Z28;clear hg hb;go_upto_region 8 with (fail)
  go_loopw [35] (fun s35 wr=>∃ j:Nat,j≤ns.length∧s35=.int .i64 j∧Par wr g r1 (.slice (some ⟨b,0,none⟩) N cap) d∧Box wr w6.heap.size 0 (vC ⟨[],ty1,0,ta,tlo,thi,0,0⟩)∧Ow vC 8 60 wr (g+1) (.slice (some ⟨b,0,none⟩) N cap) (vs++((ns.take j).map (updV (ty1,ta,tlo,thi) 0)++ns.drop j))∧Fr g (.slice (some ⟨b,0,none⟩) N cap) w wr∧w6.heap.size<wr.heap.size) (fun i _=>ns.length-(intOf i).toNat)
  case atStart=>exact ⟨0,Nat.zero_le _,rfl,P16.out,X23.out,by simpa using O32.out,G34.out,(qq Z35)⟩
  case round=>
   obtain ⟨j,hj,rfl,hP',hX',hO',hG',hS'⟩:=hrel;clear P16 G34 X10 X23 O32;have P1:=qh hP';have X1:=qh hX';have O1:=qh hO';have G1:=qh hG';have ZS:=qh (And.intro hS' Z35.out);clear hP' hX' hO' hG' hS';have w1:IntKind.i64.wrap ((j:Int)+1)=j+1:=by rw [IntKind.wrap_i64];have:=HLN.out;omega
   by_cases hlt:j<ns.length
   ·skip
    obtain ⟨x,hx⟩:∃ x,ns[j]?=some x:=⟨_,List.getElem?_eq_getElem hlt⟩;have HX:=qh hx;have hz:(j:Int)<ns.length:=by omega
    clear hx;have HAT:=qh (show (vs++((ns.take j).map (updV (ty1,ta,tlo,thi) 0)++ns.drop j))[vs.length+j]?=some x by
     rw [List.getElem?_append_right (Nat.le_add_right _ _),Nat.add_sub_cancel_left,List.getElem?_append_right (by rw [List.length_map,List.length_take];omega),List.length_map,List.length_take,Nat.min_eq_left (by omega),Nat.sub_self,List.getElem?_drop,Nat.add_zero];exact HX.out)
    have HSET:=qh (show (vs++((ns.take j).map (updV (ty1,ta,tlo,thi) 0)++ns.drop j)).set (vs.length+j) (updV (ty1,ta,tlo,thi) 0 x)=vs++((ns.take (j+1)).map (updV (ty1,ta,tlo,thi) 0)++ns.drop (j+1)) by
     have hx:=HX.out;obtain ⟨h1,h2⟩:=List.getElem?_eq_some_iff.1 hx;rw [List.set_append_right _ _ (Nat.le_add_right _ _),Nat.add_sub_cancel_left,List.set_append_right _ _ (by rw [List.length_map,List.length_take];omega),List.length_map,List.length_take,Nat.min_eq_left (by omega),Nat.sub_self];rw [List.drop_eq_getElem_cons h1,List.set_cons_zero,List.take_succ_eq_append_getElem h1,List.map_append,List.append_assoc,h2];rfl)
    generalize (vs++((ns.take j).map (updV (ty1,ta,tlo,thi) 0)++ns.drop j))=L at *;go_upto_region 11 with (fail)
    refine wp_region_T (by kernel_rfl) (fun w'=>Box w' (w6.heap.size) 0 (vC ⟨[],ty1,0,ta,tlo,thi,0,0⟩)) [] (box_drew X1.out) (fun hHeld=>?_);have hb:=(Below.refl wr.heap.size wr).drew;generalize wr.drew=w9 at *;have hg:=gr_of (row:=some wr.heap.size) hb;have X301:=hbq hg ZS X1;clear X1;have O302:=qh (Ow.gr2 O1.out hg (by rw [OB.out];intro e0;injection e0 with e0;have z:=ZS.out;omega));clear O1;have P303:=pgq hg ZS P1;clear P1;have G304:=qh (G1.out.step hg (.inr (.inr (qq ZS))));clear G1;have Z305:=hzz hg ZS;clear hg hb;refine tkr (i:=0) rfl ?_;try simp only [lq0,lq7,lq1,lq2,lq3,lq4,lq5,lq6]
    refine tkr (i:=5) rfl ?_;try simp only [lq0,lq7,lq1,lq2,lq3,lq4,lq5,lq6]
    refine tkq (i:=6) (v:=?_) rfl ?_ ?_;rotate_left 1
    ·intro w_ hSw;obtain ⟨c1,_⟩:=cell_of hSw (i:=1) rfl;go_simp<;>(with_reducible rfl)
    try simp only [lq0,lq7,lq1,lq2,lq3,lq4,lq5,lq6]
    refine tkr (i:=1) rfl ?_;try simp only [lq0,lq7,lq1,lq2,lq3,lq4,lq5,lq6]
    refine tkr (i:=2) rfl ?_;try simp only [lq0,lq7,lq1,lq2,lq3,lq4,lq5,lq6]
    refine tkr (i:=3) rfl ?_;try simp only [lq0,lq7,lq1,lq2,lq3,lq4,lq5,lq6]
    refine tkr (i:=4) rfl ?_;try simp only [lq0,lq7,lq1,lq2,lq3,lq4,lq5,lq6]
    refine tkr (i:=7) rfl ?_;try simp only [lq0,lq7,lq1,lq2,lq3,lq4,lq5,lq6]
    refine tkq (i:=8) (v:=?_) rfl ?_ ?_;rotate_left 1
    ·intro w_ hSw;obtain ⟨c3,_⟩:=cell_of hSw (i:=3) rfl;go_simp<;>(with_reducible rfl)
    try simp only [lq0,lq7,lq1,lq2,lq3,lq4,lq5,lq6]
    refine tkr (i:=9) rfl ?_;try simp only [lq0,lq7,lq1,lq2,lq3,lq4,lq5,lq6]
    refine tkq (i:=10) (v:=?_) rfl ?_ ?_;rotate_left 1
    ·intro w_ hSw;obtain ⟨c4,_⟩:=cell_of hSw (i:=4) rfl;go_simp<;>(with_reducible rfl)
    try simp only [lq0,lq7,lq1,lq2,lq3,lq4,lq5,lq6]
    refine tkr (i:=11) rfl ?_;try simp only [lq0,lq7,lq1,lq2,lq3,lq4,lq5,lq6]
    refine tkq (i:=12) (v:=?_) rfl ?_ ?_;rotate_left 1
    ·intro w_ hSw;obtain ⟨c5,_⟩:=cell_of hSw (i:=5) rfl;go_simp<;>(with_reducible rfl)
    try simp only [lq0,lq7,lq1,lq2,lq3,lq4,lq5,lq6]
    refine tkr (i:=13) rfl ?_;try simp only [lq0,lq7,lq1,lq2,lq3,lq4,lq5,lq6]
    refine tkq (i:=14) (v:=?_) rfl ?_ ?_;rotate_left 1
    ·intro w_ hSw;obtain ⟨c6,_⟩:=cell_of hSw (i:=6) rfl;go_simp<;>(with_reducible rfl)
    try simp only [lq0,lq7,lq1,lq2,lq3,lq4,lq5,lq6]
    refine tkr (i:=15) rfl ?_;try simp only [lq0,lq7,lq1,lq2,lq3,lq4,lq5,lq6]
    refine tkr (i:=16) rfl ?_;try simp only [lq0,lq7,lq1,lq2,lq3,lq4,lq5,lq6]
    refine wpAnyT_ready (rs:=[17]) (by kernel_rfl) (by simp) ?_;refine AllReadyT.cons rfl (fun K hK=>?_) AllReadyT.nil;refine t_setrow vC_len O302.out (vs.length+j) 1 ({x with type:=ty1}) (.int .i64 ty1) HAT.out (by decide) rfl (ow_free O302.out) 3 57 47 (vs.length*8+j*8+1) (by omega) rfl rfl rfl rfl rfl rfl (by kernel_rfl) ?_;intro w10 hO hg hs;have HO:=qh hO;have HS:=qh hs;clear hO hs;have X307:=hbq hg Z305 X301;clear X301;have P308:=pgq hg Z305 P303;clear P303;have G309:=qh (G304.out.step hg (.inr (.inl rfl)));clear G304;have Z310:=hzz hg Z305;have Z306:=HS;clear HS hg;have O311:=HO;clear O302 HO;refine hK.out _ _ X307.out (fun hHeld=>?_);clear hK K;try simp only [lq0,lq7,lq1,lq2,lq3,lq4,lq5,lq6]
    refine tkr (i:=18) rfl ?_;try simp only [lq0,lq7,lq1,lq2,lq3,lq4,lq5,lq6]
    refine tkr (i:=19) rfl ?_;try simp only [lq0,lq7,lq1,lq2,lq3,lq4,lq5,lq6]
    refine wpAnyT_ready (rs:=[20]) (by kernel_rfl) (by simp) ?_;refine AllReadyT.cons rfl (fun K hK=>?_) AllReadyT.nil;refine t_setrow vC_len O311.out (vs.length+j) 3 ({({x with type:=ty1}) with array:=ta}) (.bool ta) (List.getElem?_set_self (by have:=(List.getElem?_eq_some_iff.1 HAT.out).1;simpa using this)) (by decide) rfl (ow_free O311.out) 4 59 49 (vs.length*8+j*8+3) (by omega) rfl rfl rfl rfl rfl rfl (by kernel_rfl) ?_;intro w11 hO hg hs;have HO:=qh hO;have HS:=qh hs;clear hO hs;have X313:=hbx hg (by have z306:=Z306.out;have z:=Z310.out;omega) X307;clear X307;have P314:=qh (P308.out.gr hg (by have z306:=Z306.out;have z:=Z310.out;omega));clear P308;have G315:=qh (G309.out.step hg (.inr (.inl rfl)));clear G309;have Z316:=hzz hg Z310;have Z312:=HS;clear HS hg;have O317:=HO;clear O311 HO;refine hK.out _ _ X313.out (fun hHeld=>?_);clear hK K;try simp only [lq0,lq7,lq1,lq2,lq3,lq4,lq5,lq6]
    refine tkr (i:=21) rfl ?_;try simp only [lq0,lq7,lq1,lq2,lq3,lq4,lq5,lq6]
    refine tkr (i:=22) rfl ?_;try simp only [lq0,lq7,lq1,lq2,lq3,lq4,lq5,lq6]
    refine wpAnyT_ready (rs:=[23]) (by kernel_rfl) (by simp) ?_;refine AllReadyT.cons rfl (fun K hK=>?_) AllReadyT.nil;refine t_setrow vC_len O317.out (vs.length+j) 4 ({({({x with type:=ty1}) with array:=ta}) with lo:=tlo}) (.int .i64 tlo) (List.getElem?_set_self (by have:=(List.getElem?_eq_some_iff.1 HAT.out).1;simpa using this)) (by decide) rfl (ow_free O317.out) 2 61 51 (vs.length*8+j*8+4) (by omega) rfl rfl rfl rfl rfl rfl (by kernel_rfl) ?_;intro w12 hO hg hs;have HO:=qh hO;have HS:=qh hs;clear hO hs;have X319:=hbx hg (by have z306:=Z306.out;have z312:=Z312.out;have z:=Z316.out;omega) X313;clear X313;have P320:=qh (P314.out.gr hg (by have z306:=Z306.out;have z312:=Z312.out;have z:=Z316.out;omega));clear P314;have G321:=qh (G315.out.step hg (.inr (.inl rfl)));clear G315;have Z322:=hzz hg Z316;have Z318:=HS;clear HS hg;have O323:=HO;clear O317 HO;refine hK.out _ _ X319.out (fun hHeld=>?_);clear hK K;try simp only [lq0,lq7,lq1,lq2,lq3,lq4,lq5,lq6]
    refine tkr (i:=24) rfl ?_;try simp only [lq0,lq7,lq1,lq2,lq3,lq4,lq5,lq6]
    refine tkr (i:=25) rfl ?_;try simp only [lq0,lq7,lq1,lq2,lq3,lq4,lq5,lq6]
    refine wpAnyT_ready (rs:=[26]) (by kernel_rfl) (by simp) ?_;refine AllReadyT.cons rfl (fun K hK=>?_) AllReadyT.nil;refine t_setrow vC_len O323.out (vs.length+j) 5 ({({({({x with type:=ty1}) with array:=ta}) with lo:=tlo}) with hi:=thi}) (.int .i64 thi) (List.getElem?_set_self (by have:=(List.getElem?_eq_some_iff.1 HAT.out).1;simpa using this)) (by decide) rfl (ow_free O323.out) 2 63 53 (vs.length*8+j*8+5) (by omega) rfl rfl rfl rfl rfl rfl (by kernel_rfl) ?_;intro w13 hO hg hs;have HO:=qh hO;have HS:=qh hs;clear hO hs;have X325:=hbx hg (by have z306:=Z306.out;have z312:=Z312.out;have z318:=Z318.out;have z:=Z322.out;omega) X319;clear X319;have P326:=qh (P320.out.gr hg (by have z306:=Z306.out;have z312:=Z312.out;have z318:=Z318.out;have z:=Z322.out;omega));clear P320;have G327:=qh (G321.out.step hg (.inr (.inl rfl)));clear G321;have Z328:=hzz hg Z322;have Z324:=HS;clear HS hg;have O329:=HO;clear O323 HO;refine hK.out _ _ X325.out (fun hHeld=>?_);clear hK K;try simp only [lq0,lq7,lq1,lq2,lq3,lq4,lq5,lq6]
    refine tkr (i:=27) rfl ?_;try simp only [lq0,lq7,lq1,lq2,lq3,lq4,lq5,lq6]
    refine tkr (i:=28) rfl ?_;try simp only [lq0,lq7,lq1,lq2,lq3,lq4,lq5,lq6]
    refine wpAnyT_ready (rs:=[29]) (by kernel_rfl) (by simp) ?_;refine AllReadyT.cons rfl (fun K hK=>?_) AllReadyT.nil;refine t_setrow vC_len O329.out (vs.length+j) 6 ({({({({({x with type:=ty1}) with array:=ta}) with lo:=tlo}) with hi:=thi}) with init:=0}) (.int .i64 (0)) (List.getElem?_set_self (by have:=(List.getElem?_eq_some_iff.1 HAT.out).1;simpa using this)) (by decide) rfl (ow_free O329.out) 2 65 55 (vs.length*8+j*8+6) (by omega) rfl rfl rfl rfl rfl rfl (by kernel_rfl) ?_;intro w14 hO hg hs;have HO:=qh hO;have HS:=qh hs;clear hO hs;have X331:=hbx hg (by have z306:=Z306.out;have z312:=Z312.out;have z318:=Z318.out;have z324:=Z324.out;have z:=Z328.out;omega) X325;clear X325;have P332:=qh (P326.out.gr hg (by have z306:=Z306.out;have z312:=Z312.out;have z318:=Z318.out;have z324:=Z324.out;have z:=Z328.out;omega));clear P326;have G333:=qh (G327.out.step hg (.inr (.inl rfl)));clear G327;have Z334:=hzz hg Z328;have Z330:=HS;clear HS hg;have O335:=HO;clear O329 HO;refine hK.out _ _ X331.out (fun hHeld=>?_);clear hK K;try simp only [lq0,lq7,lq1,lq2,lq3,lq4,lq5,lq6]
    refine wpAnyT_done (by kernel_rfl) ?_ _;have HOF:=qh (show Ow vC 8 60 w14 (g+1) (.slice (some ⟨b,0,none⟩) N cap) (L.set (vs.length+j) (updV (ty1,ta,tlo,thi) 0 x)) by
     have h9:=O335.out;simp only [List.set_set] at h9;exact h9)
    rw [HSET.out] at HOF;go_wp2_with fail
    go_roundw
    case rel=>exact ⟨j+1,by omega,by go_num,P332.out,X331.out,HOF.out,G333.out,(by have z306:=Z306.out;have z312:=Z312.out;have z318:=Z318.out;have z324:=Z324.out;have z330:=Z330.out;have z:=Z334.out;omega)⟩
    case measure=>simp [intOf];omega
   ·skip
    have ej:j=ns.length:=by omega
    have hz:¬ (j:Int)<ns.length:=by omega
    have HOF:=qh (show Ow vC 8 60 wr (g+1) (.slice (some ⟨b,0,none⟩) N cap) (vs++ns.map (updV (ty1,ta,tlo,thi) 0)) by
     have h9:=O1.out;rw [ej,List.take_length,List.drop_length,List.append_nil] at h9;exact h9)
    clear ej O1;go_wp2_with fail
    refine end0 rfl rfl ?_;exact GvV.okOf HR29.out.symm R17.out G1.out (LinkV.refl _ _) P1.out HOF.out
end
theorem typ_bind {β:Type} (r:Sg) (G:(Int×Bool×Int×Int)→Int→Sg→Res β):((typeP r).bind fun ty r'=>
 (if txt r'=[58,61] then (valueP (r'.drop 1)).bind fun v r'=>
   if ty.2.1=true∨2<ty.1∨(v.1=true∧ty.1=1)∨(v.1=false∧ty.1=2) then .bad 1 (hd r) else .ok v.2 r'
  else .ok 0 r').bind fun init r'=>G ty init r')=(typQ r).bind fun x r'=>G x.1 x.2 r':=by
 unfold typQ;rw [bind_bind];congr 1
 funext ty r'
 rw [bind_bind];rfl
def lineK (f:Nat) (sec:Int) (vs:List Va) (ns:List Tk) (r:Sg):Res (List Va):=
 (need [58] r).bind fun _ r1=>(typQ r1).bind fun x r'=>(need [59] r').bind fun _ r'=>linesF f sec r' (vs++(ns.map (newV sec)).map (updV x.1 x.2))
theorem lines_step {f:Nat} {sec:Int} {r:Sg} {vs:List Va} (h:txt r≠[69,78,68,95,86,65,82]):linesF (f+1) sec r vs=(namesF f vs.length r []).bind (lineK f sec vs):=by
 rw [linesF,if_neg h];unfold lineP;rw [bind_bind];congr 1
 funext ns r'
 rw [bind_bind];unfold lineK;congr 1
 funext _ r1
 simp only [bind_bind,bind_okE];refine (typ_bind r1 (fun ty init r2=>(need [59] r2).bind fun _ r3=>linesF f sec r3 (vs++ns.map fun t=>(⟨t.text,ty.1,sec,ty.2.1,ty.2.2.1,ty.2.2.2,init,t.line⟩:Va)))).trans ?_;congr 1
 funext x r2
 congr 1
 funext _ r3
 rw [List.map_map];rfl
theorem names_step {f m:Nat} {r:Sg} {acc:List Tk}:namesF (f+1) m r acc=(tokP (m+acc.length) r).bind fun t r'=>if txt r'=[44] then namesF f m (r'.drop 1) (acc++[t]) else .ok (acc++[t]) r':=by
 rw [namesF];unfold tokP;by_cases h:64<m+acc.length+1
 ·rw [if_pos h,if_pos h];rfl
 ·rw [if_neg h,if_neg h]
theorem fin_typQ {r:Sg}:Fin' r.length (typQ r):=by
 unfold typQ;refine fin_bind fin_type fun ty r1 h1=>?_
 refine fin_bind (n:=r.length) ?_ fun init r2 h2=>fin_ok h2
 split
 ·refine fin_bind fin_value fun v r2 h2=>?_
  split
  ·exact fin_bad (by decide)
  ·exact fin_ok (by rw [List.length_drop] at h2;omega)
 ·exact fin_ok h1
theorem fin_tok {m:Nat} {r:Sg}:Fin' r.length (tokP m r):=by
 unfold tokP;split
 ·exact fin_bad (by decide)
 ·exact fin_want (by decide)
theorem tok_len {m:Nat} {r r':Sg} {t:Tk} (h:tokP m r=.ok t r'):m+1≤64:=by
 unfold tokP at h;split at h
 ·cases h
 ·omega
theorem names_len:∀ (f m:Nat) (r r':Sg) (acc ns:List Tk),namesF f m r acc=.ok ns r'→m+ns.length≤64
 | 0,_,_,_,_,_,h=>by cases h
 | f+1,m,r,r',acc,ns,h=>by
  rw [names_step] at h;obtain ⟨t,r1,h1,h⟩:=bind_ok h;have hm:=tok_len h1;split at h
  ·exact names_len f m _ r' _ ns h
  ·cases h
   rw [List.length_append];simp only [List.length_cons,List.length_nil];omega
theorem lines_len:∀ (f:Nat) (sec:Int) (r:Sg) (vs:List Va) {vs':List Va} {r':Sg},vs.length≤64→linesF f sec r vs=.ok vs' r'→vs'.length≤64
 | 0,_,_,_,_,_,_,h=>by cases h
 | f+1,sec,r,vs,vs',r',hv,h=>by
  by_cases hw:txt r=[69,78,68,95,86,65,82]
  ·rw [linesF,if_pos hw] at h
   cases h
   exact hv
  ·rw [lines_step hw] at h
   obtain ⟨ns,r1,h1,h⟩:=bind_ok h;have hn:=names_len _ _ _ _ _ _ h1;unfold lineK at h;obtain ⟨_,r2,_,h⟩:=bind_ok h;obtain ⟨x,r3,_,h⟩:=bind_ok h;obtain ⟨_,r4,_,h⟩:=bind_ok h;exact lines_len f sec r4 _ (by rw [List.length_append,List.length_map,List.length_map];exact hn) h
section
variable {r:Sg} {V:Value} {d g:Nat} {w:World}
theorem section_any (hP:Par w g r V d) (hr:RowOk r) {vs:List Va} (hO:Ow vC 8 60 w (g+1) V vs) (hv:vs.length≤64) (sec:Int) {f:Nat} (hf:20*r.length+2≤f) :
  Calls Tryz.prog 77 #[.pointer (some ⟨g,0,none⟩),.int .i64 sec] w (GvV g d V w (linesF f sec r vs)):=by
 obtain ⟨R,hR⟩:∃ R:Res (List Va),(linesF f sec r vs)=R:=⟨_,rfl⟩;rw [hR];have HR:=qh hR;clear hR;have O1:=qh hO;have HV:=qh hv;have HF:=qh hf;clear hO hv hf;have P1:=qh hP;have G1:=qh (Fr.refl g V w);have R1:=qh hr;have Z1:=qh (show g<w.heap.size from hP.lt);clear hP hr;go_enter Tryz.func77,Tryz.ntmps77
 go_wp2_with fail
 go_loopw [4] (fun _ wr=>∃ (vs1:List Va) (r':Sg) (fc:Nat) (V1:Value),linesF fc sec r' vs1=R∧20*r'.length+2≤fc∧vs1.length≤64∧RowOk r'∧Par wr g r' V1 d∧Ow vC 8 60 wr (g+1) V1 vs1∧Fr g V w wr∧LinkV V w V1) (fun _ wr=>rowLen wr g)
 case atStart=>exact ⟨vs,r,f,V,HR.out,HF.out,HV.out,R1.out,P1.out,O1.out,G1.out,LinkV.refl _ _⟩
 case round=>
  obtain ⟨vs1,r',fc,V1,hR',hfc,hv1,hr',hP',hO',hG',hK'⟩:=hrel;clear P1 G1 R1 HR O1;have P1:=qh hP';have O1:=qh hO';have G1:=qh hG';have R1:=qh hr';have HV1:=qh hv1;have HFC:=qh hfc;have LK1:=qh hK';have ZS:=qh (And.intro hG'.size Z1.out);have HLR:=qh hr'.len;obtain ⟨f2,rfl⟩:∃ k,fc=k+1:=⟨fc-1,by omega⟩;have HR:=qh hR';clear hP' hO' hG' hK' hr' hv1 hfc hR';have NLEN:=qh P1.out.len;by_cases hw:txt r'=[69,78,68,95,86,65,82]
  ·skip
   have hq:=HR.out;rw [linesF,if_pos hw] at hq;have HR301:=qh hq;clear hq HR;have R302:=qh (R1.out.drop (txt_kind hw (by decide)));go_wp2_with (go_at_call 76;fail)
   refine (take_yes P1.out R1.out (hyq R1 hw) (txt_kind hw (by decide))).mono ?_;rintro e w4 ⟨rfl,hp,hg⟩;have P303:=qh hp;have O304:=oqq hg ZS O1;clear O1 P1;have G305:=qh (G1.out.step hg (.inl rfl));clear G1;have Z306:=hzz hg ZS;clear hg hp R1;generalize ((r').drop 1)=r307 at *;go_wp2_with fail
   refine end0 rfl rfl ?_;exact GvV.okOf HR301.out.symm R302.out G305.out LK1.out P303.out O304.out
  have hq:=HR.out;rw [lines_step hw] at hq;have HR301:=qh hq;clear hq HR;go_wp2_with (go_at_call 76;fail)
  refine (take_no P1.out R1.out (hnq R1 hw)).mono ?_;rintro e w4 ⟨rfl,hb⟩;have hg:=gr_of (row:=some wr.heap.size) hb;have O302:=oqq hg ZS O1;clear O1;have P303:=pgq hg ZS P1;clear P1;have G304:=qh (G1.out.step hg (.inr (.inr (qq ZS))));clear G1;have Z305:=hzz hg ZS;clear hg hb;obtain ⟨A9,cap9,hV1,hrd⟩:=O302.out.form vC_len;subst hV1;have hnl:=hrd.len_le;clear hrd;obtain ⟨A1,c1,hB1,hR1⟩:=P303.out;have ⟨a0,k0,a1,k1,a2,k2,_⟩:=hB1;clear hB1 hR1;go_upto_region 3 with (fail)
  clear a0 k0 a1 k1 a2 k2;go_loopw [5] (fun s5 wx=>∃ (m:Bool) (acc:List Tk) (r2:Sg) (f3:Nat) (V2:Value),s5=.bool m∧(m=true→(namesF f3 vs1.length r2 acc).bind (lineK f2 sec vs1)=R∧20*r2.length+1≤f3)∧(m=false→lineK f2 sec vs1 acc r2=R∧r2.length<r'.length∧1≤acc.length)∧r2.length≤r'.length∧vs1.length+acc.length≤64∧RowOk r2∧Par wx g r2 V2 d∧Ow vC 8 60 wx (g+1) V2 (vs1++acc.map (newV sec))∧Fr g V w wx∧LinkV V w V2) (fun _ wx=>rowLen wx g)
  case atStart=>exact ⟨true,[],r',f2,_,rfl,fun _=>⟨HR301.out,by have:=HFC.out;omega⟩,(fun h=>by cases h),Nat.le_refl _,HV1.out,R1.out,P303.out,by simpa using O302.out,G304.out,LK1.out⟩
  case round=>
   obtain ⟨m,acc,r2,f3,V2,rfl,hm1,hm2,hle,hv2,hr',hP',hO',hG',hK'⟩:=hrel;clear P303 G304 HR301 O302;have P1:=qh hP';have O1:=qh hO';have G1:=qh hG';have R1:=qh hr';have HV2:=qh hv2;have HLE:=qh hle;have LK2:=qh hK';have ZT:=qh (And.intro hG'.size Z305.out);have HLR2:=qh hr'.len;clear hP' hO' hG' hK' hr' hv2 hle;have NLEN2:=qh P1.out.len;cases m
   ·skip
    obtain ⟨hq,hlt,hac⟩:=hm2 rfl;unfold lineK at hq;have HR:=qh hq;have HLT:=qh hlt;have HAC:=qh hac;clear hm1 hm2 hq hlt hac;have hl0:=drop_len r2;have HLD:=qh hl0;clear hl0;by_cases hs501:txt (r2)=[58]
    rotate_left
    ·have hq:=HR.out
     rw [need_badE hs501] at hq;go_wp2_with (go_at_call 47;fail)
     refine (need_no P1.out R1.out (hnq R1 hs501)).mono ?_;rintro e w5 ⟨rfl,hb⟩;go_wp2;exact ⟨rfl,GvV.badOf hq.symm (G1.out.step (gr_of (row:=some wr.heap.size) hb) (.inr (.inr (qq ZT))))⟩
    have hq:=HR.out;rw [need_okE hs501,bind_okE] at hq;have HR502:=qh hq;clear hq HR;have R503:=qh (R1.out.drop (txt_kind hs501 (by decide)));go_wp2_with (go_at_call 47;fail)
    refine (need_yes P1.out R1.out (hyq R1 hs501)).mono ?_;rintro e w5 ⟨rfl,hp,hg⟩;have P504:=qh hp;replace O1:=oqq hg ZT O1;clear P1;have G506:=qh (G1.out.step hg (.inl rfl));clear G1;have Z507:=hzz hg ZT;clear hg hp R1;generalize ((r2).drop 1)=r508 at *;have OL:=qh (show (vs1++acc.map (newV sec)).length=vs1.length+acc.length by rw [List.length_append,List.length_map]);obtain ⟨s8,hV2⟩:=Ow.sl vC_len O1.out;obtain ⟨A8,n8,c8⟩:=s8;have hV2:V2=.slice A8 n8 c8:=hV2;subst hV2;obtain ⟨A7,cap7,hV7,hrd⟩:=O1.out.form vC_len;injection hV7 with hA hn hc
    subst hA hc hn;have hcap:=hrd.2.1;have hmax:=hrd.2.2.1;obtain ⟨b,hb0⟩:∃ b,A8=some ⟨b,0,none⟩:=by
     have h9:=O1.out.2;rcases h9 with ⟨h9,h10⟩|⟨g9,cap,cur,h9,_⟩
     ·have:=OL.out;have:=HAC.out;omega
     ·injection h9 with h9;exact ⟨g9,h9⟩
    subst hb0;rw [OL.out] at hcap;obtain ⟨A1,c1,hB1,hR1⟩:=P504.out;have ⟨a0,k0,a1,k1,a2,k2,_⟩:=hB1;clear hB1 hR1 hrd;rw [OL.out] at a1;have PP:=P504;have OO:=O1;rw [OL.out] at PP OO;clear P504 O1;obtain ⟨N,hN⟩:∃ N,vs1.length+acc.length=N:=⟨_,rfl⟩;have HNN:=qh hN;rw [hN] at a1 PP OO hcap;have q1:(vs1.length:Int)≤N:=by omega
    have q2:¬ (N:Int)<vs1.length:=by omega
    have q3:¬ (c8:Int)=vs1.length:=by have:=HAC.out;omega
    have q4:(vs1.length:Int)≤c8:=by omega
    have hmax':c8≤9223372036854775807:=by unfold maxLen at hmax;omega
    have TY:=qh (typed_any (cap2:=c8-vs1.length) PP.out R503.out OO.out (by have:=HNN.out;have:=HV2.out;rw [List.length_map];omega));rw [List.length_map] at TY;have hN2:N-vs1.length=acc.length:=by have:=HNN.out;omega
    clear hN hcap hmax OL;go_wp2_with (go_at_call 114;fail)
    clear a0 k0 a1 k1 a2 k2 q1 q2 q3 q4;have FI:=qh (fin_typQ (r:=r508));refine (TY.out).mono ?_;rintro e w6 hgv;rcases hp:typQ r508 with ⟨x5,r5⟩|⟨n9,t9⟩
    rotate_left
    ·rw [hp] at hgv
     obtain ⟨rfl,hb⟩:=hgv;have hq:=HR502.out;rw [hp] at hq;go_wp2;exact ⟨rfl,GvV.badOf hq.symm (G506.out.thenV hb LK2.out)⟩
    rw [hp] at hgv;obtain ⟨rfl,hr9,hb,V5,hlk,hP9,hO9⟩:=hgv;have hq:=HR502.out;rw [hp,bind_okE] at hq;have HR509:=qh hq;clear hq HR502;have P510:=qh hP9;have O511:=qh hO9;have R512:=qh hr9;have G513:=qh (G506.out.thenV hb LK2.out);have Z514:=qh (And.intro (show w.heap.size≤w6.heap.size from G513.out.size) Z507.out);clear hP9 hO9 hr9 hb PP OO R503 G506;have LK515:=qh (LK2.out.trans (qq Z507) hlk);clear hlk;have L5:Hid (r5.length<r508.length):=by
     have:=FI.out;rw [hp] at this;exact qh this
    clear FI hp TY hN2;have hl5:=drop_len r5;have HL5:=qh hl5;clear hl5;by_cases hs516:txt (r5)=[59]
    rotate_left
    ·have hq:=HR509.out
     rw [need_badE hs516] at hq;go_wp2_with (go_at_call 47;fail)
     refine (need_no P510.out R512.out (hnq R512 hs516)).mono ?_;rintro e w7 ⟨rfl,hb⟩;go_wp2;exact ⟨rfl,GvV.badOf hq.symm (G513.out.step (gr_of (row:=some w6.heap.size) hb) (.inr (.inr (qq Z514))))⟩
    have hq:=HR509.out;rw [need_okE hs516,bind_okE] at hq;have HR517:=qh hq;clear hq HR509;have R518:=qh (R512.out.drop (txt_kind hs516 (by decide)));go_wp2_with (go_at_call 47;fail)
    refine (need_yes P510.out R512.out (hyq R512 hs516)).mono ?_;rintro e w7 ⟨rfl,hp,hg⟩;have P519:=qh hp;have O520:=oqq hg Z514 O511;clear O511 P510;have G521:=qh (G513.out.step hg (.inl rfl));clear G513;have Z522:=hzz hg Z514;clear hg hp R512;generalize ((r5).drop 1)=r523 at *;go_wp2_with fail
    go_roundw
    case rel=>exact ⟨_,_,f2,_,HR517.out,(by have z:=Z522.out;have:=HLT.out;have:=HLD.out;have:=L5.out;have:=HL5.out;have:=HLR.out;have:=HFC.out;have:=HNN.out;have:=HV2.out;omega),(by have z:=Z522.out;have:=HLT.out;have:=HLD.out;have:=L5.out;have:=HL5.out;have:=HLR.out;have:=HFC.out;have:=HNN.out;have:=HV2.out;simp only [List.length_append,List.length_map];omega),R518.out,P519.out,O520.out,G521.out,LK515.out⟩
    case measure=>rw [NLEN.out,P519.out.len];have z:=Z522.out;have:=HLT.out;have:=HLD.out;have:=L5.out;have:=HL5.out;have:=HLR.out;have:=HFC.out;have:=HNN.out;have:=HV2.out;omega
   ·skip
    obtain ⟨hq,hfu⟩:=hm1 rfl;obtain ⟨f4,rfl⟩:∃ k,f3=k+1:=⟨f3-1,by omega⟩;rw [names_step,bind_bind] at hq;have HR:=qh hq;have HFU:=qh hfu;clear hm1 hm2 hq hfu;have VA:=qh (variable_any P1.out R1.out O1.out (by have:=HV2.out;rw [List.length_append,List.length_map];omega) sec);rw [show (vs1++acc.map (newV sec)).length=vs1.length+acc.length by rw [List.length_append,List.length_map]] at VA;have FI:=qh (fin_tok (m:=vs1.length+acc.length) (r:=r2));go_wp2_with (go_at_call 113;fail)
    refine (VA.out).mono ?_;rintro e w5 hgv;rcases hp:tokP (vs1.length+acc.length) r2 with ⟨t5,r5⟩|⟨n9,t9⟩
    rotate_left
    ·rw [hp] at hgv
     obtain ⟨rfl,hb⟩:=hgv;have hq:=HR.out;rw [hp] at hq;go_wp2;exact ⟨rfl,GvV.badOf hq.symm (G1.out.thenV hb LK2.out)⟩
    rw [hp] at hgv;obtain ⟨rfl,hr9,hb,V5,hlk,hP9,hO9⟩:=hgv;have hq:=HR.out;rw [hp,bind_okE] at hq;have HR501:=qh hq;clear hq HR;have P502:=qh hP9;have O503:=qh hO9;have R504:=qh hr9;have G505:=qh (G1.out.thenV hb LK2.out);have Z506:=qh (And.intro (show w.heap.size≤w5.heap.size from G505.out.size) ZT.out);clear hP9 hO9 hr9 hb P1 O1 R1 G1;have LK507:=qh (LK2.out.trans (qq ZT) hlk);clear hlk;have L5:Hid (r5.length<r2.length):=by
     have:=FI.out;rw [hp] at this;exact qh this
    have HT:=qh (tok_len hp);clear FI hp VA;by_cases hw4:txt r5=[44]
    ·skip
     have hq:=HR501.out;rw [if_pos hw4] at hq;have HR508:=qh hq;clear hq HR501;have hl0:=drop_len r5;have HLX:=qh hl0;have HLY:=qh R504.out.len;clear hl0;have R509:=qh (R504.out.drop (txt_kind hw4 (by decide)));go_wp2_with (go_at_call 76;fail)
     refine (take_yes P502.out R504.out (hyq R504 hw4) (txt_kind hw4 (by decide))).mono ?_;rintro e w6 ⟨rfl,hp,hg⟩;have P510:=qh hp;have O511:=oqq hg Z506 O503;clear O503 P502;have G512:=qh (G505.out.step hg (.inl rfl));clear G505;have Z513:=hzz hg Z506;clear hg hp R504;generalize ((r5).drop 1)=r514 at *;go_wp2_with fail
     go_roundw
     case rel=>exact ⟨true,acc++[t5],_,f4,_,rfl,fun _=>⟨HR508.out,(by have z:=Z513.out;have:=L5.out;have:=HT.out;have:=HLE.out;have:=HFU.out;have:=HLX.out;have:=HLY.out;omega)⟩,(fun h=>by cases h),(by have z:=Z513.out;have:=L5.out;have:=HT.out;have:=HLE.out;have:=HFU.out;have:=HLX.out;have:=HLY.out;omega),(by have z:=Z513.out;have:=L5.out;have:=HT.out;have:=HLE.out;have:=HFU.out;have:=HLX.out;have:=HLY.out;simp only [List.length_append,List.length_cons,List.length_nil];omega),R509.out,P510.out,by rw [List.map_append,←List.append_assoc];exact O511.out,G512.out,LK507.out⟩
     case measure=>rw [NLEN2.out,P510.out.len];have z:=Z513.out;have:=L5.out;have:=HT.out;have:=HLE.out;have:=HFU.out;have:=HLX.out;have:=HLY.out;omega
    ·skip
     have hq:=HR501.out;rw [if_neg hw4,bind_okE] at hq;have HR508:=qh hq;clear hq HR501;go_wp2_with (go_at_call 76;fail)
     refine (take_no P502.out R504.out (hnq R504 hw4)).mono ?_;rintro e w6 ⟨rfl,hb⟩;have hg:=gr_of (row:=some w5.heap.size) hb;replace O503:=oqq hg Z506 O503;have P510:=pgq hg Z506 P502;clear P502;have G511:=qh (G505.out.step hg (.inr (.inr (qq Z506))));clear G505;have Z512:=hzz hg Z506;clear hg hb;go_wp2_with fail
     go_roundw
     case rel=>exact ⟨false,acc++[t5],_,f4,_,rfl,(fun h=>by cases h),fun _=>⟨HR508.out,(by have z:=Z512.out;have:=L5.out;have:=HT.out;have:=HLE.out;have:=HFU.out;omega),by simp⟩,(by have z:=Z512.out;have:=L5.out;have:=HT.out;have:=HLE.out;have:=HFU.out;omega),(by have z:=Z512.out;have:=L5.out;have:=HT.out;have:=HLE.out;have:=HFU.out;simp only [List.length_append,List.length_cons,List.length_nil];omega),R504.out,P510.out,by rw [List.map_append,←List.append_assoc];exact O503.out,G511.out,LK507.out⟩
     case measure=>rw [NLEN2.out,P510.out.len];have z:=Z512.out;have:=L5.out;have:=HT.out;have:=HLE.out;have:=HFU.out;omega
theorem sections_any (hP:Par w g r V d) (hr:RowOk r) {vs:List Va} (hO:Ow vC 8 60 w (g+1) V vs) (hv:vs.length≤64) {f:Nat} (hf:20*r.length+1≤f) :
  Calls Tryz.prog 48 #[.pointer (some ⟨g,0,none⟩)] w (GvV g d V w (sectsF f r vs)):=by
 obtain ⟨R,hR⟩:∃ R:Res (List Va),(sectsF f r vs)=R:=⟨_,rfl⟩;rw [hR];have HR:=qh hR;clear hR;have O1:=qh hO;have HV:=qh hv;have HF:=qh hf;clear hO hv hf;have P1:=qh hP;have G1:=qh (Fr.refl g V w);have R1:=qh hr;have Z1:=qh (show g<w.heap.size from hP.lt);clear hP hr;go_enter Tryz.func48,Tryz.ntmps48
 go_wp2_with fail
 go_loopw [3] (fun _ wr=>∃ (vs1:List Va) (r':Sg) (fc:Nat) (V1:Value),sectsF fc r' vs1=R∧20*r'.length+1≤fc∧vs1.length≤64∧RowOk r'∧Par wr g r' V1 d∧Ow vC 8 60 wr (g+1) V1 vs1∧Fr g V w wr∧LinkV V w V1) (fun _ wr=>rowLen wr g)
 case atStart=>exact ⟨vs,r,f,V,HR.out,HF.out,HV.out,R1.out,P1.out,O1.out,G1.out,LinkV.refl _ _⟩
 case round=>
  obtain ⟨vs1,r',fc,V1,hR',hfc,hv1,hr',hP',hO',hG',hK'⟩:=hrel;clear P1 G1 R1 HR O1;have P1:=qh hP';have O1:=qh hO';have G1:=qh hG';have R1:=qh hr';have HV1:=qh hv1;have HFC:=qh hfc;have LK1:=qh hK';have ZS:=qh (And.intro hG'.size Z1.out);have HLR:=qh hr'.len;obtain ⟨f2,rfl⟩:∃ k,fc=k+1:=⟨fc-1,by omega⟩;have HR:=qh hR';clear hP' hO' hG' hK' hr' hv1 hfc hR';have NLEN:=qh P1.out.len;have hl0:=drop_len r';have HLD:=qh hl0;clear hl0;by_cases h0:txt r'=[86,65,82]
  ·skip
   have hq:=HR.out;rw [sectsF,h0,if_neg (by decide),if_neg (by decide),if_pos rfl] at hq;have HR301:=qh hq;clear hq HR;have R302:=qh (R1.out.drop (txt_kind h0 (by decide)));go_wp2_with (go_at_call 76;fail)
   refine (take_yes P1.out R1.out (hyq R1 h0) (txt_kind h0 (by decide))).mono ?_;rintro e w4 ⟨rfl,hp,hg⟩;have P303:=qh hp;replace O1:=oqq hg ZS O1;clear P1;have G305:=qh (G1.out.step hg (.inl rfl));clear G1;have Z306:=hzz hg ZS;clear hg hp R1;generalize ((r').drop 1)=r307 at *;have hfx:20*r307.length+2≤f2:=(by have z:=Z306.out;have:=HFC.out;have:=HLD.out;have:=HLR.out;omega);have SA:=qh (section_any P303.out R302.out O1.out HV1.out 0 hfx);have FI:=qh (fin_lines f2 0 r307 vs1 hfx);clear hfx;go_wp2_with (go_at_call 77;fail)
   refine (SA.out).mono ?_;rintro e w5 hgv;rcases hp:linesF f2 0 r307 vs1 with ⟨vs5,r5⟩|⟨n9,t9⟩
   rotate_left
   ·rw [hp] at hgv
    obtain ⟨rfl,hb⟩:=hgv;have hq:=HR301.out;rw [hp] at hq;go_wp2;exact ⟨rfl,GvV.badOf hq.symm (G305.out.thenV hb LK1.out)⟩
   rw [hp] at hgv;obtain ⟨rfl,hr9,hb,V5,hlk,hP9,hO9⟩:=hgv;have hq:=HR301.out;rw [hp,bind_okE] at hq;have HR308:=qh hq;clear hq HR301;have P309:=qh hP9;have O310:=qh hO9;have R311:=qh hr9;have G312:=qh (G305.out.thenV hb LK1.out);have Z313:=qh (And.intro (show w.heap.size≤w5.heap.size from G312.out.size) Z306.out);clear hP9 hO9 hr9 hb P303 O1 R302 G305;have LK314:=qh (LK1.out.trans (qq Z306) hlk);clear hlk;have L5:Hid (r5.length<r307.length):=by
    have:=FI.out;rw [hp] at this;exact qh this
   have HV5:=qh (lines_len _ _ _ _ HV1.out hp);clear FI hp SA;go_wp2_with fail
   go_roundw
   case rel=>exact ⟨vs5,r5,f2,V5,HR308.out,(by have z:=Z313.out;have:=HLD.out;have:=L5.out;have:=HLR.out;have:=HFC.out;omega),HV5.out,R311.out,P309.out,O310.out,G312.out,LK314.out⟩
   case measure=>rw [NLEN.out,P309.out.len];have z:=Z313.out;have:=HLD.out;have:=L5.out;have:=HLR.out;have:=HFC.out;omega
  go_wp2_with (go_at_call 76;fail)
  refine (take_no P1.out R1.out (hnq R1 h0)).mono ?_;rintro e w4 ⟨rfl,hb⟩;have hg:=gr_of (row:=some wr.heap.size) hb;replace O1:=oqq hg ZS O1;replace P1:=pgq hg ZS P1;have G303:=qh (G1.out.step hg (.inr (.inr (qq ZS))));clear G1;have Z304:=hzz hg ZS;clear hg hb;by_cases h1:txt r'=[86,65,82,95,73,78,80,85,84]
  ·skip
   have hq:=HR.out;rw [sectsF,h1,if_pos rfl] at hq;have HR305:=qh hq;clear hq HR;have R306:=qh (R1.out.drop (txt_kind h1 (by decide)));go_wp2_with (go_at_call 76;fail)
   refine (take_yes P1.out R1.out (hyq R1 h1) (txt_kind h1 (by decide))).mono ?_;rintro e w5 ⟨rfl,hp,hg⟩;have P307:=qh hp;replace O1:=oqq hg Z304 O1;clear P1;have G309:=qh (G303.out.step hg (.inl rfl));clear G303;have Z310:=hzz hg Z304;clear hg hp R1;generalize ((r').drop 1)=r311 at *;have hfx:20*r311.length+2≤f2:=(by have z:=Z310.out;have:=HFC.out;have:=HLD.out;have:=HLR.out;omega);have SA:=qh (section_any P307.out R306.out O1.out HV1.out 1 hfx);have FI:=qh (fin_lines f2 1 r311 vs1 hfx);clear hfx;go_wp2_with (go_at_call 77;fail)
   refine (SA.out).mono ?_;rintro e w6 hgv;rcases hp:linesF f2 1 r311 vs1 with ⟨vs5,r5⟩|⟨n9,t9⟩
   rotate_left
   ·rw [hp] at hgv
    obtain ⟨rfl,hb⟩:=hgv;have hq:=HR305.out;rw [hp] at hq;go_wp2;exact ⟨rfl,GvV.badOf hq.symm (G309.out.thenV hb LK1.out)⟩
   rw [hp] at hgv;obtain ⟨rfl,hr9,hb,V5,hlk,hP9,hO9⟩:=hgv;have hq:=HR305.out;rw [hp,bind_okE] at hq;have HR312:=qh hq;clear hq HR305;have P313:=qh hP9;have O314:=qh hO9;have R315:=qh hr9;have G316:=qh (G309.out.thenV hb LK1.out);have Z317:=qh (And.intro (show w.heap.size≤w6.heap.size from G316.out.size) Z310.out);clear hP9 hO9 hr9 hb P307 O1 R306 G309;have LK318:=qh (LK1.out.trans (qq Z310) hlk);clear hlk;have L5:Hid (r5.length<r311.length):=by
    have:=FI.out;rw [hp] at this;exact qh this
   have HV5:=qh (lines_len _ _ _ _ HV1.out hp);clear FI hp SA;go_wp2_with fail
   go_roundw
   case rel=>exact ⟨vs5,r5,f2,V5,HR312.out,(by have z:=Z317.out;have:=HLD.out;have:=L5.out;have:=HLR.out;have:=HFC.out;omega),HV5.out,R315.out,P313.out,O314.out,G316.out,LK318.out⟩
   case measure=>rw [NLEN.out,P313.out.len];have z:=Z317.out;have:=HLD.out;have:=L5.out;have:=HLR.out;have:=HFC.out;omega
  go_wp2_with (go_at_call 76;fail)
  refine (take_no P1.out R1.out (hnq R1 h1)).mono ?_;rintro e w5 ⟨rfl,hb⟩;have hg:=gr_of (row:=some w4.heap.size) hb;replace O1:=oqq hg Z304 O1;replace P1:=pgq hg Z304 P1;have G307:=qh (G303.out.step hg (.inr (.inr (qq Z304))));clear G303;have Z308:=hzz hg Z304;clear hg hb;by_cases h2:txt r'=[86,65,82,95,79,85,84,80,85,84]
  ·skip
   have hq:=HR.out;rw [sectsF,h2,if_neg (by decide),if_pos rfl] at hq;have HR309:=qh hq;clear hq HR;have R310:=qh (R1.out.drop (txt_kind h2 (by decide)));go_wp2_with (go_at_call 76;fail)
   refine (take_yes P1.out R1.out (hyq R1 h2) (txt_kind h2 (by decide))).mono ?_;rintro e w6 ⟨rfl,hp,hg⟩;have P311:=qh hp;replace O1:=oqq hg Z308 O1;clear P1;have G313:=qh (G307.out.step hg (.inl rfl));clear G307;have Z314:=hzz hg Z308;clear hg hp R1;generalize ((r').drop 1)=r315 at *;have hfx:20*r315.length+2≤f2:=(by have z:=Z314.out;have:=HFC.out;have:=HLD.out;have:=HLR.out;omega);have SA:=qh (section_any P311.out R310.out O1.out HV1.out 2 hfx);have FI:=qh (fin_lines f2 2 r315 vs1 hfx);clear hfx;go_wp2_with (go_at_call 77;fail)
   refine (SA.out).mono ?_;rintro e w7 hgv;rcases hp:linesF f2 2 r315 vs1 with ⟨vs5,r5⟩|⟨n9,t9⟩
   rotate_left
   ·rw [hp] at hgv
    obtain ⟨rfl,hb⟩:=hgv;have hq:=HR309.out;rw [hp] at hq;go_wp2;exact ⟨rfl,GvV.badOf hq.symm (G313.out.thenV hb LK1.out)⟩
   rw [hp] at hgv;obtain ⟨rfl,hr9,hb,V5,hlk,hP9,hO9⟩:=hgv;have hq:=HR309.out;rw [hp,bind_okE] at hq;have HR316:=qh hq;clear hq HR309;have P317:=qh hP9;have O318:=qh hO9;have R319:=qh hr9;have G320:=qh (G313.out.thenV hb LK1.out);have Z321:=qh (And.intro (show w.heap.size≤w7.heap.size from G320.out.size) Z314.out);clear hP9 hO9 hr9 hb P311 O1 R310 G313;have LK322:=qh (LK1.out.trans (qq Z314) hlk);clear hlk;have L5:Hid (r5.length<r315.length):=by
    have:=FI.out;rw [hp] at this;exact qh this
   have HV5:=qh (lines_len _ _ _ _ HV1.out hp);clear FI hp SA;go_wp2_with fail
   go_roundw
   case rel=>exact ⟨vs5,r5,f2,V5,HR316.out,(by have z:=Z321.out;have:=HLD.out;have:=L5.out;have:=HLR.out;have:=HFC.out;omega),HV5.out,R319.out,P317.out,O318.out,G320.out,LK322.out⟩
   case measure=>rw [NLEN.out,P317.out.len];have z:=Z321.out;have:=HLD.out;have:=L5.out;have:=HLR.out;have:=HFC.out;omega
  go_wp2_with (go_at_call 76;fail)
  refine (take_no P1.out R1.out (hnq R1 h2)).mono ?_;rintro e w6 ⟨rfl,hb⟩;have hg:=gr_of (row:=some w5.heap.size) hb;replace O1:=oqq hg Z308 O1;replace P1:=pgq hg Z308 P1;have G311:=qh (G307.out.step hg (.inr (.inr (qq Z308))));clear G307;have Z312:=hzz hg Z308;clear hg hb;have hq:=HR.out;rw [sectsF,if_neg h1,if_neg h2,if_neg h0] at hq;have HR313:=qh hq;clear hq HR;go_wp2_with fail
  first|refine end0 rfl rfl ?_|refine ret0 rfl rfl ?_
  exact GvV.okOf HR313.out.symm R1.out G311.out LK1.out P1.out O1.out
end
end tr
end Go.Proofs.YtdefgghhkknnpaaGreatDoor

/- The landed parser's types and values. No condition but what each line says. -/
import Derived.Test.YtdefgghhkknnpaaGreatDoorE11
import Derived.Test.YtdefgghhkknnpaaGreatDoorE23
set_option linter.unusedVariables false
set_option linter.unusedSimpArgs false
set_option maxRecDepth 100000
set_option maxHeartbeats 40000000
namespace Go.Proofs.YtdefgghhkknnpaaGreatDoor
namespace tr
open ChangeShapes WideShapes ChangeAt RowKit k rr tk
theorem kind_eq (s:Str):sd.kindS ⟨s.toArray⟩=kindOf s:=by
 by_cases h0:s=[84,79,78]
 ·subst h0;kernel_rfl
 by_cases h1:s=[84,79,70]
 ·subst h1;kernel_rfl
 by_cases h2:s=[84,80]
 ·subst h2;kernel_rfl
 by_cases h3:s=[67,84,85]
 ·subst h3;kernel_rfl
 by_cases h4:s=[67,84,68]
 ·subst h4;kernel_rfl
 by_cases h5:s=[82,95,84,82,73,71]
 ·subst h5;kernel_rfl
 by_cases h6:s=[70,95,84,82,73,71]
 ·subst h6;kernel_rfl
 by_cases h7:s=[83,82]
 ·subst h7;kernel_rfl
 by_cases h8:s=[82,83]
 ·subst h8;kernel_rfl
 by_cases h9:s=[77,67,95,80,111,119,101,114]
 ·subst h9;kernel_rfl
 by_cases h10:s=[77,67,95,72,111,109,101]
 ·subst h10;kernel_rfl
 by_cases h11:s=[77,67,95,83,116,111,112]
 ·subst h11;kernel_rfl
 by_cases h12:s=[77,67,95,72,97,108,116]
 ·subst h12;kernel_rfl
 by_cases h13:s=[77,67,95,77,111,118,101,65,98,115,111,108,117,116,101]
 ·subst h13;kernel_rfl
 by_cases h14:s=[77,67,95,77,111,118,101,82,101,108,97,116,105,118,101]
 ·subst h14;kernel_rfl
 by_cases h15:s=[77,67,95,77,111,118,101,65,100,100,105,116,105,118,101]
 ·subst h15;kernel_rfl
 by_cases h16:s=[77,67,95,77,111,118,101,86,101,108,111,99,105,116,121]
 ·subst h16;kernel_rfl
 by_cases h17:s=[77,67,95,71,101,97,114,73,110]
 ·subst h17;kernel_rfl
 by_cases h18:s=[77,67,95,82,101,115,101,116]
 ·subst h18;kernel_rfl
 by_cases h19:s=[77,67,95,83,101,116,80,111,115,105,116,105,111,110]
 ·subst h19;kernel_rfl
 by_cases h20:s=[77,67,95,83,101,116,79,118,101,114,114,105,100,101]
 ·subst h20;kernel_rfl
 by_cases hz:s=[]
 ·subst hz;kernel_rfl
 have e1:kindOf s=0:=by
  unfold kindOf kinds;rw [List.find?_eq_none.2];intro k hk;simp only [List.mem_cons,List.not_mem_nil,or_false] at hk;rcases hk with rfl|rfl|rfl|rfl|rfl|rfl|rfl|rfl|rfl|rfl|rfl|rfl|rfl|rfl|rfl|rfl|rfl|rfl|rfl|rfl|rfl
  ·simpa using fun h=>h0 h.symm
  ·simpa using fun h=>h1 h.symm
  ·simpa using fun h=>h2 h.symm
  ·simpa using fun h=>h3 h.symm
  ·simpa using fun h=>h4 h.symm
  ·simpa using fun h=>h5 h.symm
  ·simpa using fun h=>h6 h.symm
  ·simpa using fun h=>h7 h.symm
  ·simpa using fun h=>h8 h.symm
  ·simpa using fun h=>h9 h.symm
  ·simpa using fun h=>h10 h.symm
  ·simpa using fun h=>h11 h.symm
  ·simpa using fun h=>h12 h.symm
  ·simpa using fun h=>h13 h.symm
  ·simpa using fun h=>h14 h.symm
  ·simpa using fun h=>h15 h.symm
  ·simpa using fun h=>h16 h.symm
  ·simpa using fun h=>h17 h.symm
  ·simpa using fun h=>h18 h.symm
  ·simpa using fun h=>h19 h.symm
  ·simpa using fun h=>h20 h.symm
 have ne:∀ t:Str,s≠t→¬ (⟨t.toArray⟩:ByteArray)=⟨s.toArray⟩:=fun t h e=>h (by
  have:=congrArg (fun x:ByteArray=>x.data.toList) e;simpa using this.symm)
 have n10:¬ (sd.shapeOf 10).name=⟨s.toArray⟩:=by rw [show (sd.shapeOf 10).name=⟨([84,79,78]:Str).toArray⟩ by kernel_rfl];exact ne _ h0
 have n11:¬ (sd.shapeOf 11).name=⟨s.toArray⟩:=by rw [show (sd.shapeOf 11).name=⟨([84,79,70]:Str).toArray⟩ by kernel_rfl];exact ne _ h1
 have n12:¬ (sd.shapeOf 12).name=⟨s.toArray⟩:=by rw [show (sd.shapeOf 12).name=⟨([84,80]:Str).toArray⟩ by kernel_rfl];exact ne _ h2
 have n13:¬ (sd.shapeOf 13).name=⟨s.toArray⟩:=by rw [show (sd.shapeOf 13).name=⟨([67,84,85]:Str).toArray⟩ by kernel_rfl];exact ne _ h3
 have n14:¬ (sd.shapeOf 14).name=⟨s.toArray⟩:=by rw [show (sd.shapeOf 14).name=⟨([67,84,68]:Str).toArray⟩ by kernel_rfl];exact ne _ h4
 have n15:¬ (sd.shapeOf 15).name=⟨s.toArray⟩:=by rw [show (sd.shapeOf 15).name=⟨([82,95,84,82,73,71]:Str).toArray⟩ by kernel_rfl];exact ne _ h5
 have n16:¬ (sd.shapeOf 16).name=⟨s.toArray⟩:=by rw [show (sd.shapeOf 16).name=⟨([70,95,84,82,73,71]:Str).toArray⟩ by kernel_rfl];exact ne _ h6
 have n17:¬ (sd.shapeOf 17).name=⟨s.toArray⟩:=by rw [show (sd.shapeOf 17).name=⟨([83,82]:Str).toArray⟩ by kernel_rfl];exact ne _ h7
 have n18:¬ (sd.shapeOf 18).name=⟨s.toArray⟩:=by rw [show (sd.shapeOf 18).name=⟨([82,83]:Str).toArray⟩ by kernel_rfl];exact ne _ h8
 have n19:¬ (sd.shapeOf 19).name=⟨s.toArray⟩:=by rw [show (sd.shapeOf 19).name=⟨([]:Str).toArray⟩ by kernel_rfl];exact ne _ hz
 have n20:¬ (sd.shapeOf 20).name=⟨s.toArray⟩:=by rw [show (sd.shapeOf 20).name=⟨([77,67,95,80,111,119,101,114]:Str).toArray⟩ by kernel_rfl];exact ne _ h9
 have n21:¬ (sd.shapeOf 21).name=⟨s.toArray⟩:=by rw [show (sd.shapeOf 21).name=⟨([77,67,95,72,111,109,101]:Str).toArray⟩ by kernel_rfl];exact ne _ h10
 have n22:¬ (sd.shapeOf 22).name=⟨s.toArray⟩:=by rw [show (sd.shapeOf 22).name=⟨([77,67,95,83,116,111,112]:Str).toArray⟩ by kernel_rfl];exact ne _ h11
 have n23:¬ (sd.shapeOf 23).name=⟨s.toArray⟩:=by rw [show (sd.shapeOf 23).name=⟨([77,67,95,72,97,108,116]:Str).toArray⟩ by kernel_rfl];exact ne _ h12
 have n24:¬ (sd.shapeOf 24).name=⟨s.toArray⟩:=by rw [show (sd.shapeOf 24).name=⟨([77,67,95,77,111,118,101,65,98,115,111,108,117,116,101]:Str).toArray⟩ by kernel_rfl];exact ne _ h13
 have n25:¬ (sd.shapeOf 25).name=⟨s.toArray⟩:=by rw [show (sd.shapeOf 25).name=⟨([77,67,95,77,111,118,101,82,101,108,97,116,105,118,101]:Str).toArray⟩ by kernel_rfl];exact ne _ h14
 have n26:¬ (sd.shapeOf 26).name=⟨s.toArray⟩:=by rw [show (sd.shapeOf 26).name=⟨([77,67,95,77,111,118,101,65,100,100,105,116,105,118,101]:Str).toArray⟩ by kernel_rfl];exact ne _ h15
 have n27:¬ (sd.shapeOf 27).name=⟨s.toArray⟩:=by rw [show (sd.shapeOf 27).name=⟨([77,67,95,77,111,118,101,86,101,108,111,99,105,116,121]:Str).toArray⟩ by kernel_rfl];exact ne _ h16
 have n28:¬ (sd.shapeOf 28).name=⟨s.toArray⟩:=by rw [show (sd.shapeOf 28).name=⟨([77,67,95,71,101,97,114,73,110]:Str).toArray⟩ by kernel_rfl];exact ne _ h17
 have n29:¬ (sd.shapeOf 29).name=⟨s.toArray⟩:=by rw [show (sd.shapeOf 29).name=⟨([77,67,95,82,101,115,101,116]:Str).toArray⟩ by kernel_rfl];exact ne _ h18
 have n30:¬ (sd.shapeOf 30).name=⟨s.toArray⟩:=by rw [show (sd.shapeOf 30).name=⟨([77,67,95,83,101,116,80,111,115,105,116,105,111,110]:Str).toArray⟩ by kernel_rfl];exact ne _ h19
 have n31:¬ (sd.shapeOf 31).name=⟨s.toArray⟩:=by rw [show (sd.shapeOf 31).name=⟨([77,67,95,83,101,116,79,118,101,114,114,105,100,101]:Str).toArray⟩ by kernel_rfl];exact ne _ h20
 rw [e1];unfold sd.kindS;rw [if_neg (fun e=>ne [] hz e.symm)];simp only [sd.kindFrom,Int.reduceAdd,n10,n11,n12,n13,n14,n15,n16,n17,n18,n19,n20,n21,n22,n23,n24,n25,n26,n27,n28,n29,n30,n31,if_false]
def GotT (x:Int×Bool×Int×Int) (w w':World) (v:Value):Prop:=v=.agg (vC ⟨[],x.1,0,x.2.1,x.2.2.1,x.2.2.2,0,0⟩).toArray
def GotP (x:Bool×Int) (w w':World) (v:Value):Prop:=v=.tuple #[.int .i64 x.2,.int .i64 (if x.1=true then 2 else 1)]
def plainP (r:Sg):Res Int:=if simpleT r≠0 then .ok (simpleT r) (r.drop 1) else .bad 5 (hd r)
def blockP (r:Sg):Res Int:=(want 1 r).bind fun t r'=>if kindOf t.text=0 then .bad 9 t else .ok (kindOf t.text) r'
def arrayP (r:Sg):Res (Int×Bool×Int×Int):=(need [91] (r.drop 1)).bind fun _ r'=>(want 3 r').bind fun lo r'=>(need [46,46] r').bind fun _ r'=>(want 3 r').bind fun hi r'=>
  if hi.n<lo.n∨255<hi.n then .bad 1 hi
  else (need [93] r').bind fun _ r'=>(need [79,70] r').bind fun _ r'=>(plainP r').bind fun t r'=>.ok (t,true,lo.n,hi.n) r'
theorem type_array {r:Sg} (h:txt r=[65,82,82,65,89]):typeP r=arrayP r:=by
 have hs:simpleT r=0:=by unfold simpleT;rw [h];decide
 unfold typeP;rw [hs,if_neg (by decide),if_pos h];unfold arrayP plainP fail;congr 1;funext _ r1;congr 1;funext lo r2;congr 1;funext _ r3;congr 1;funext hi r4
 split
 ·rfl
 ·congr 1;funext _ r5;congr 1;funext _ r6
  split<;>rfl
theorem type_block {r:Sg} (h:(hd r).kind=1):typeP r=(blockP r).bind fun t r'=>.ok (t,false,0,0) r':=by
 have ht:txt r=[]:=txt_none (by omega);have hs:simpleT r=0:=by unfold simpleT;rw [ht];decide
 unfold typeP;rw [hs,if_neg (by decide),ht,if_neg (by decide)];unfold blockP;rw [bind_bind];congr 1;funext t r1
 split<;>rfl
theorem type_plain {r:Sg} (h1:txt r≠[65,82,82,65,89]) (h2:(hd r).kind≠1):typeP r=(plainP r).bind fun t r'=>.ok (t,false,0,0) r':=by
 unfold typeP plainP;rw [if_neg h1,want_badE h2];split<;>rfl
section
variable {r:Sg} {V:Value} {d g:Nat} {w:World}
theorem plain_any (hP:Par w g r V d) (hr:RowOk r):Calls Tryz.prog 158 #[.pointer (some ⟨g,0,none⟩)] w (Gv g V d w GotI (plainP r)):=by
 obtain ⟨R,hR⟩:∃ R:Res Int,(plainP r)=R:=⟨_,rfl⟩;rw [hR];have HR:=qh hR;clear hR;have P1:=qh hP;have G1:=qh (gr_refl w (some g));have R1:=qh hr;have Z1:=qh (show g<w.heap.size from hP.lt);clear hP hr;have hq:=HR.out;unfold plainP at hq;have HR2:=qh hq;clear hq HR;go_enter Tryz.func158,Tryz.ntmps158
 by_cases h0:txt r=[73,78,84]
 ·skip
  have hq:=HR2.out;rw [show simpleT r=1 from if_pos h0,if_pos (by decide)] at hq;have HR3:=qh hq;clear hq HR2;have R4:=qh (R1.out.drop (txt_kind h0 (by decide)));go_wp2_with (go_at_call 76;fail)
  refine (take_yes P1.out R1.out (hyq R1 h0) (txt_kind h0 (by decide))).mono ?_;rintro e w4 ⟨rfl,hp,hg⟩;have P5:=qh hp;clear P1;replace G1:=gtr G1 hg;have Z7:=hzz hg Z1;clear hg hp R1;generalize ((r).drop 1)=r8 at *;go_wp2;go_ret
  exact Gv.okOf HR3.out.symm rfl P5.out R4.out G1.out
 go_wp2_with (go_at_call 76;fail)
 refine (take_no P1.out R1.out (hnq R1 h0)).mono ?_;rintro e w4 ⟨rfl,hb⟩;have hg:=gr_of (row:=some w.heap.size) hb;replace P1:=pgq hg Z1 P1;replace G1:=hgq hg G1 Z1;have Z5:=hzz hg Z1;clear hg hb;by_cases h1:txt r=[66,79,79,76]
 ·skip
  have hq:=HR2.out;rw [show simpleT r=2 from (if_neg h0).trans (if_pos h1),if_pos (by decide)] at hq;have HR6:=qh hq;clear hq HR2;have R7:=qh (R1.out.drop (txt_kind h1 (by decide)));go_wp2_with (go_at_call 47;fail)
  refine (need_yes P1.out R1.out (hyq R1 h1)).mono ?_;rintro e w5 ⟨rfl,hp,hg⟩;have P8:=qh hp;clear P1;replace G1:=gtr G1 hg;have Z10:=hzz hg Z5;clear hg hp R1;generalize (r.drop 1)=r11 at *;go_wp2;go_ret
  exact Gv.okOf HR6.out.symm rfl P8.out R7.out G1.out
 have hq:=HR2.out;rw [show simpleT r=0 from (if_neg h0).trans (if_neg h1),if_neg (by decide)] at hq;have HR6:=qh hq;clear hq HR2;have hq:=HR6.out;go_wp2_with (go_at_call 47;fail)
 refine (need_no P1.out R1.out (hnq R1 h1)).mono ?_;rintro e w5 ⟨rfl,hb⟩;go_wp2;exact ⟨rfl,Gv.badOf hq.symm (gr_trans G1.out (gr_of hb))⟩
theorem value_any (hP:Par w g r V d) (hr:RowOk r):Calls Tryz.prog 141 #[.pointer (some ⟨g,0,none⟩)] w (Gv g V d w GotP (valueP r)):=by
 obtain ⟨R,hR⟩:∃ R:Res (Bool×Int),(valueP r)=R:=⟨_,rfl⟩;rw [hR];have HR:=qh hR;clear hR;have P1:=qh hP;have G1:=qh (gr_refl w (some g));have R1:=qh hr;have Z1:=qh (show g<w.heap.size from hP.lt);clear hP hr;have hq:=HR.out;unfold valueP at hq;have HR2:=qh hq;clear hq HR;go_enter Tryz.func141,Tryz.ntmps141
 by_cases h0:txt r=[84,82,85,69]
 ·skip
  have hq:=HR2.out;rw [if_pos h0] at hq;have HR3:=qh hq;clear hq HR2;have R4:=qh (R1.out.drop (txt_kind h0 (by decide)));go_wp2_with (go_at_call 76;fail)
  refine (take_yes P1.out R1.out (hyq R1 h0) (txt_kind h0 (by decide))).mono ?_;rintro e w4 ⟨rfl,hp,hg⟩;have P5:=qh hp;clear P1;replace G1:=gtr G1 hg;have Z7:=hzz hg Z1;clear hg hp R1;generalize ((r).drop 1)=r8 at *;go_wp2;go_ret2
  exact Gv.okOf HR3.out.symm rfl P5.out R4.out G1.out
 go_wp2_with (go_at_call 76;fail)
 refine (take_no P1.out R1.out (hnq R1 h0)).mono ?_;rintro e w4 ⟨rfl,hb⟩;have hg:=gr_of (row:=some w.heap.size) hb;replace P1:=pgq hg Z1 P1;replace G1:=hgq hg G1 Z1;have Z5:=hzz hg Z1;clear hg hb;by_cases h1:txt r=[70,65,76,83,69]
 ·skip
  have hq:=HR2.out;rw [if_neg h0,if_pos h1] at hq;have HR6:=qh hq;clear hq HR2;have R7:=qh (R1.out.drop (txt_kind h1 (by decide)));go_wp2_with (go_at_call 76;fail)
  refine (take_yes P1.out R1.out (hyq R1 h1) (txt_kind h1 (by decide))).mono ?_;rintro e w5 ⟨rfl,hp,hg⟩;have P8:=qh hp;clear P1;replace G1:=gtr G1 hg;have Z10:=hzz hg Z5;clear hg hp R1;generalize ((r).drop 1)=r11 at *;go_wp2;go_ret2
  exact Gv.okOf HR6.out.symm rfl P8.out R7.out G1.out
 go_wp2_with (go_at_call 76;fail)
 refine (take_no P1.out R1.out (hnq R1 h1)).mono ?_;rintro e w5 ⟨rfl,hb⟩;have hg:=gr_of (row:=some w4.heap.size) hb;replace P1:=pgq hg Z5 P1;replace G1:=hgq hg G1 Z5;have Z8:=hzz hg Z5;clear hg hb;have hq:=HR2.out;rw [if_neg h0,if_neg h1] at hq;have HR9:=qh hq;clear hq HR2;have SG:=qh fun W (h:Par W g r V d)=>signed_any h R1.out
 go_wp2_with (go_at_call 159;fail)
 refine (SG.out _ P1.out).mono ?_;rintro e w6 hgv;rcases hp:intg r with ⟨a1,r1⟩|⟨n9,t9⟩
 rotate_left
 ·rw [hp] at hgv
  obtain ⟨rfl,hg⟩:=hgv;have hq:=HR9.out;rw [hp] at hq;go_wp2;exact ⟨rfl,Gv.badOf hq.symm (gr_trans G1.out hg)⟩
 rw [hp] at hgv;obtain ⟨⟨v9,rfl,hG⟩,hP9,hr9,hg⟩:=hgv;have hq:=HR9.out;rw [hp] at hq;try rw [bind_okE] at hq
 have HR10:=qh hq;clear hq HR9;have P11:=qh hP9;have R12:=qh hr9;clear P1;replace G1:=gtr G1 hg;have Z14:=hzz hg Z8;clear hg hP9 hr9 R1;obtain rfl:=hG;go_wp2;go_ret2
 exact Gv.okOf HR10.out.symm rfl P11.out R12.out G1.out
theorem blockKind_any (hP:Par w g r V d) (hr:RowOk r):Calls Tryz.prog 157 #[.pointer (some ⟨g,0,none⟩)] w (Gv g V d w GotI (blockP r)):=by
 obtain ⟨R,hR⟩:∃ R:Res Int,(blockP r)=R:=⟨_,rfl⟩;rw [hR];have HR:=qh hR;clear hR;have P1:=qh hP;have G1:=qh (gr_refl w (some g));have R1:=qh hr;have Z1:=qh (show g<w.heap.size from hP.lt);clear hP hr;have hq:=HR.out;unfold blockP at hq;have HR2:=qh hq;clear hq HR;go_enter Tryz.func157,Tryz.ntmps157
 by_cases hs3:(tr.hd (r)).kind=1
 rotate_left
 ·have hq:=HR2.out
  rw [want_badE hs3] at hq;go_wp2_with (go_at_call 47;fail)
  refine (need_no P1.out R1.out (mt (headS_kind R1.out).1.1 hs3)).mono ?_;rintro e w4 ⟨rfl,hb⟩;go_wp2;exact ⟨rfl,Gv.badOf hq.symm (gr_trans G1.out (gr_of hb))⟩
 have hq:=HR2.out;rw [want_okE hs3,bind_okE] at hq;have HR4:=qh hq;clear hq HR2;have R5:=qh (R1.out.drop (by rw [hs3];decide));go_wp2_with (go_at_call 47;fail)
 refine (need_yes P1.out R1.out ((headS_kind R1.out).1.2 hs3)).mono ?_;rintro e w4 ⟨rfl,hp,hg⟩;have P6:=qh hp;clear P1;replace G1:=gtr G1 hg;have Z8:=hzz hg Z1;clear hg hp R1;generalize ((r).drop 1)=r9 at *;go_upto_region 2 with ((with_reducible refine m_new 34 3 6 ?_ ?_ ?_ (tC (tr.hd (r))) ?_ ?_ ?_ ?_ (tC_one _) ?_);rfl;rfl;rfl;rfl;rfl;rfl;kernel_rfl;intro w5 hx hb hz)
 have hg:=gr_of (row:=some w4.heap.size) hb;have Z10:=qh (And.intro hz Z8.out);have X11:=qh hx;clear hb hx hz;replace P6:=pgq hg Z8 P6;replace G1:=hgq hg G1 Z8;have Z14:=hzz hg Z10;clear hg;have ⟨c1,_⟩:=cell_of X11.out (i:=1) rfl;have KA:=qh fun W=>sd.kind_any ⟨(tr.hd (r)).text.toArray⟩ W
 rw [kind_eq] at KA;go_wp2_with (go_at_call 177;fail)
 refine (KA.out _).mono ?_;rintro e w6 ⟨rfl,hb⟩;clear c1;have hg:=gr_of (row:=some w5.heap.size) hb;replace X11:=hbq hg Z14 X11;replace P6:=pgq hg Z14 P6;replace G1:=hgq hg G1 Z14;have Z18:=hzz hg Z14;clear hg hb KA;by_cases h0:kindOf (tr.hd (r)).text=0
 ·skip
  have hq:=HR4.out;rw [if_pos h0] at hq;have HR19:=qh hq;clear hq HR4;rw [h0];go_wp2_with (first|((with_reducible refine m_load X11.out 34 3 ?_ ?_ ?_ ?_ ?_ ?_);rfl;rfl;rfl;rfl;kernel_rfl)|(go_at_call 73;fail))
  refine (fail_any 9 (tr.hd (r)) _).mono ?_;rintro e w9 ⟨rfl,hb⟩;go_wp2;exact ⟨rfl,Gv.badOf HR19.out.symm (gr_trans G1.out (gr_of hb))⟩
 ·skip
  have hq:=HR4.out;rw [if_neg h0] at hq;have HR19:=qh hq;clear hq HR4;have q0:(kindOf (tr.hd (r)).text==0)=false:=by rw [beq_eq_false_iff_ne];exact h0
  go_wp2;go_ret
  exact Gv.okOf HR19.out.symm rfl P6.out R5.out G1.out
end
section
variable {r:Sg} {V:Value} {d g:Nat} {w:World}
theorem array_any (hP:Par w g r V d) (hr:RowOk r) (h0:txt r=[65,82,82,65,89]):Calls Tryz.prog 156 #[.pointer (some ⟨g,0,none⟩)] w (Gv g V d w GotT (arrayP r)):=by
 obtain ⟨R,hR⟩:∃ R:Res (Int×Bool×Int×Int),(arrayP r)=R:=⟨_,rfl⟩;rw [hR];have HR:=qh hR;clear hR;have P1:=qh hP;have G1:=qh (gr_refl w (some g));have R1:=qh hr;have Z1:=qh (show g<w.heap.size from hP.lt);clear hP hr;have hq:=HR.out;unfold arrayP at hq;have HR2:=qh hq;clear hq HR;go_enter Tryz.func156,Tryz.ntmps156
 go_upto_region 1 with (fail)
 obtain ⟨hb,hx,hz⟩:=znew w #[.string ⟨#[]⟩,.int .i64 0,.int .i64 0,.bool false,.int .i64 0,.int .i64 0,.int .i64 0,.int .i64 0] 60;generalize w.alloc (.cells #[.string ⟨#[]⟩,.int .i64 0,.int .i64 0,.bool false,.int .i64 0,.int .i64 0,.int .i64 0,.int .i64 0] 60)=w4 at *;have hg:=gr_of (row:=some w.heap.size) hb;have Z3:=qh (And.intro hz Z1.out);have X4:=qh hx;clear hb hx hz;replace P1:=pgq hg Z1 P1;replace G1:=hgq hg G1 Z1;have Z7:=hzz hg Z3;clear hg;have R8:=qh (R1.out.drop (txt_kind h0 (by decide)));go_wp2_with (go_at_call 47;fail)
 refine (need_yes P1.out R1.out (hyq R1 h0)).mono ?_;rintro e w5 ⟨rfl,hp,hg⟩;have P9:=qh hp;replace X4:=hbq hg Z7 X4;clear P1;replace G1:=gtr G1 hg;have Z12:=hzz hg Z7;clear hg hp R1 h0;generalize (r.drop 1)=r13 at *;by_cases hs14:txt (r13)=[91]
 rotate_left
 ·have hq:=HR2.out
  rw [need_badE hs14] at hq;go_wp2_with (go_at_call 47;fail)
  refine (need_no P9.out R8.out (hnq R8 hs14)).mono ?_;rintro e w6 ⟨rfl,hb⟩;go_wp2;exact ⟨rfl,Gv.badOf hq.symm (gr_trans G1.out (gr_of hb))⟩
 have hq:=HR2.out;rw [need_okE hs14,bind_okE] at hq;have HR15:=qh hq;clear hq HR2;have R16:=qh (R8.out.drop (txt_kind hs14 (by decide)));go_wp2_with (go_at_call 47;fail)
 refine (need_yes P9.out R8.out (hyq R8 hs14)).mono ?_;rintro e w6 ⟨rfl,hp,hg⟩;have P17:=qh hp;replace X4:=hbq hg Z12 X4;clear P9;replace G1:=gtr G1 hg;have Z20:=hzz hg Z12;clear hg hp R8;generalize ((r13).drop 1)=r21 at *;by_cases hs22:(tr.hd (r21)).kind=3
 rotate_left
 ·have hq:=HR15.out
  rw [want_badE hs22] at hq;go_wp2_with (go_at_call 47;fail)
  refine (need_no P17.out R16.out (mt (headS_kind R16.out).2.1.1 hs22)).mono ?_;rintro e w7 ⟨rfl,hb⟩;go_wp2;exact ⟨rfl,Gv.badOf hq.symm (gr_trans G1.out (gr_of hb))⟩
 have hq:=HR15.out;rw [want_okE hs22,bind_okE] at hq;have HR23:=qh hq;clear hq HR15;have R24:=qh (R16.out.drop (by rw [hs22];decide));go_wp2_with (go_at_call 47;fail)
 refine (need_yes P17.out R16.out ((headS_kind R16.out).2.1.2 hs22)).mono ?_;rintro e w7 ⟨rfl,hp,hg⟩;have P25:=qh hp;replace X4:=hbq hg Z20 X4;clear P17;replace G1:=gtr G1 hg;have Z28:=hzz hg Z20;clear hg hp R16;generalize ((r21).drop 1)=r29 at *;go_upto_region 4 with ((with_reducible refine m_new 34 3 10 ?_ ?_ ?_ (tC (tr.hd (r21))) ?_ ?_ ?_ ?_ (tC_one _) ?_);rfl;rfl;rfl;rfl;rfl;rfl;kernel_rfl;intro w8 hx hb hz)
 have hg:=gr_of (row:=some w7.heap.size) hb;have Z30:=qh (And.intro hz Z28.out);have X31:=qh hx;clear hb hx hz;replace X4:=hbq hg Z28 X4;replace P25:=pgq hg Z28 P25;replace G1:=hgq hg G1 Z28;have Z35:=hzz hg Z30;clear hg;by_cases hs36:txt (r29)=[46,46]
 rotate_left
 ·have hq:=HR23.out
  rw [need_badE hs36] at hq;go_wp2_with (go_at_call 47;fail)
  refine (need_no P25.out R24.out (hnq R24 hs36)).mono ?_;rintro e w9 ⟨rfl,hb⟩;go_wp2;exact ⟨rfl,Gv.badOf hq.symm (gr_trans G1.out (gr_of hb))⟩
 have hq:=HR23.out;rw [need_okE hs36,bind_okE] at hq;have HR37:=qh hq;clear hq HR23;have R38:=qh (R24.out.drop (txt_kind hs36 (by decide)));go_wp2_with (go_at_call 47;fail)
 refine (need_yes P25.out R24.out (hyq R24 hs36)).mono ?_;rintro e w9 ⟨rfl,hp,hg⟩;have P39:=qh hp;replace X4:=hbq hg Z35 X4;replace X31:=hbq hg Z35 X31;clear P25;replace G1:=gtr G1 hg;have Z43:=hzz hg Z35;clear hg hp R24;generalize ((r29).drop 1)=r44 at *;by_cases hs45:(tr.hd (r44)).kind=3
 rotate_left
 ·have hq:=HR37.out
  rw [want_badE hs45] at hq;go_wp2_with (go_at_call 47;fail)
  refine (need_no P39.out R38.out (mt (headS_kind R38.out).2.1.1 hs45)).mono ?_;rintro e w10 ⟨rfl,hb⟩;go_wp2;exact ⟨rfl,Gv.badOf hq.symm (gr_trans G1.out (gr_of hb))⟩
 have hq:=HR37.out;rw [want_okE hs45,bind_okE] at hq;have HR46:=qh hq;clear hq HR37;have R47:=qh (R38.out.drop (by rw [hs45];decide));go_wp2_with (go_at_call 47;fail)
 refine (need_yes P39.out R38.out ((headS_kind R38.out).2.1.2 hs45)).mono ?_;rintro e w10 ⟨rfl,hp,hg⟩;have P48:=qh hp;replace X4:=hbq hg Z43 X4;replace X31:=hbq hg Z43 X31;clear P39;replace G1:=gtr G1 hg;have Z52:=hzz hg Z43;clear hg hp R38;generalize ((r44).drop 1)=r53 at *;go_upto_region 6 with ((with_reducible refine m_new 34 4 14 ?_ ?_ ?_ (tC (tr.hd (r44))) ?_ ?_ ?_ ?_ (tC_one _) ?_);rfl;rfl;rfl;rfl;rfl;rfl;kernel_rfl;intro w11 hx hb hz)
 have hg:=gr_of (row:=some w10.heap.size) hb;have Z54:=qh (And.intro hz Z52.out);have X55:=qh hx;clear hb hx hz;replace X4:=hbq hg Z52 X4;replace X31:=hbq hg Z52 X31;replace P48:=pgq hg Z52 P48;replace G1:=hgq hg G1 Z52;have Z60:=hzz hg Z54;clear hg;generalize tr.hd (r21)=lo at *;generalize tr.hd (r44)=hi at *;have ⟨c2,_⟩:=cell_of X31.out (i:=2) rfl;have ⟨d2,_⟩:=cell_of X55.out (i:=2) rfl;by_cases hb1:hi.n<lo.n∨255<hi.n
 ·skip
  have hq:=HR46.out;rw [if_pos hb1] at hq;have HR61:=qh hq;clear hq HR46;by_cases hb2:hi.n<lo.n
  ·skip
   go_wp2_with (first|((with_reducible refine m_load X55.out 34 4 ?_ ?_ ?_ ?_ ?_ ?_);rfl;rfl;rfl;rfl;kernel_rfl)|(go_at_call 73;fail))
   refine (fail_any 1 hi _).mono ?_;rintro e w9 ⟨rfl,hb⟩;go_wp2;exact ⟨rfl,Gv.badOf HR61.out.symm (gr_trans G1.out (gr_of hb))⟩
  ·skip
   have hb3:255<hi.n:=hb1.resolve_left hb2;go_wp2_with (first|((with_reducible refine m_load X55.out 34 4 ?_ ?_ ?_ ?_ ?_ ?_);rfl;rfl;rfl;rfl;kernel_rfl)|(go_at_call 73;fail))
   refine (fail_any 1 hi _).mono ?_;rintro e w9 ⟨rfl,hb⟩;go_wp2;exact ⟨rfl,Gv.badOf HR61.out.symm (gr_trans G1.out (gr_of hb))⟩
 have hq:=HR46.out;rw [if_neg hb1] at hq;have HR61:=qh hq;clear hq HR46;have hb2:¬ hi.n<lo.n:=fun h=>hb1 (.inl h)
 have hb3:¬ 255<hi.n:=fun h=>hb1 (.inr h)
 clear hb1;go_upto_region 8 with (fail)
 clear c2 d2 hb2 hb3;by_cases hs62:txt (r53)=[93]
 rotate_left
 ·have hq:=HR61.out
  rw [need_badE hs62] at hq;go_wp2_with (go_at_call 47;fail)
  refine (need_no P48.out R47.out (hnq R47 hs62)).mono ?_;rintro e w12 ⟨rfl,hb⟩;go_wp2;exact ⟨rfl,Gv.badOf hq.symm (gr_trans G1.out (gr_of hb))⟩
 have hq:=HR61.out;rw [need_okE hs62,bind_okE] at hq;have HR63:=qh hq;clear hq HR61;have R64:=qh (R47.out.drop (txt_kind hs62 (by decide)));go_wp2_with (go_at_call 47;fail)
 refine (need_yes P48.out R47.out (hyq R47 hs62)).mono ?_;rintro e w12 ⟨rfl,hp,hg⟩;have P65:=qh hp;replace X4:=hbq hg Z60 X4;replace X31:=hbq hg Z60 X31;replace X55:=hbq hg Z60 X55;clear P48;replace G1:=gtr G1 hg;have Z70:=hzz hg Z60;clear hg hp R47;generalize ((r53).drop 1)=r71 at *;by_cases hs72:txt (r71)=[79,70]
 rotate_left
 ·have hq:=HR63.out
  rw [need_badE hs72] at hq;go_wp2_with (go_at_call 47;fail)
  refine (need_no P65.out R64.out (hnq R64 hs72)).mono ?_;rintro e w13 ⟨rfl,hb⟩;go_wp2;exact ⟨rfl,Gv.badOf hq.symm (gr_trans G1.out (gr_of hb))⟩
 have hq:=HR63.out;rw [need_okE hs72,bind_okE] at hq;have HR73:=qh hq;clear hq HR63;have R74:=qh (R64.out.drop (txt_kind hs72 (by decide)));go_wp2_with (go_at_call 47;fail)
 refine (need_yes P65.out R64.out (hyq R64 hs72)).mono ?_;rintro e w13 ⟨rfl,hp,hg⟩;have P75:=qh hp;replace X4:=hbq hg Z70 X4;replace X31:=hbq hg Z70 X31;replace X55:=hbq hg Z70 X55;clear P65;replace G1:=gtr G1 hg;have Z80:=hzz hg Z70;clear hg hp R64;generalize ((r71).drop 1)=r81 at *;go_upto_region 10 with (fail)
 refine wp_region_T (by kernel_rfl) (fun w'=>Box w' (w7.heap.size) 0 (tC lo)∧Box w' (w10.heap.size) 0 (tC hi)) [] ⟨box_drew X31.out,box_drew X55.out⟩ (fun hHeld=>?_);have hb:=(Below.refl w13.heap.size w13).drew;generalize w13.drew=w14 at *;have hg:=gr_of (row:=some w13.heap.size) hb;replace X4:=hbq hg Z80 X4;replace X31:=hbq hg Z80 X31;replace X55:=hbq hg Z80 X55;replace P75:=pgq hg Z80 P75;replace G1:=hgq hg G1 Z80;have Z87:=hzz hg Z80;clear hg hb;refine tkr (i:=0) rfl ?_;try simp only [lq0,lq7,lq1,lq2,lq3,lq4,lq5,lq6]
 refine tkr (i:=2) rfl ?_;try simp only [lq0,lq7,lq1,lq2,lq3,lq4,lq5,lq6]
 refine tkq (i:=3) (v:=?_) rfl ?_ ?_;rotate_left 1
 ·intro w_ hSw;obtain ⟨c2,_⟩:=cell_of hSw.1 (i:=2) rfl;go_simp<;>(with_reducible rfl)
 try simp only [lq0,lq7,lq1,lq2,lq3,lq4,lq5,lq6]
 refine tkr (i:=4) rfl ?_;try simp only [lq0,lq7,lq1,lq2,lq3,lq4,lq5,lq6]
 refine tkq (i:=5) (v:=?_) rfl ?_ ?_;rotate_left 1
 ·intro w_ hSw;obtain ⟨d2,_⟩:=cell_of hSw.2 (i:=2) rfl;go_simp<;>(with_reducible rfl)
 try simp only [lq0,lq7,lq1,lq2,lq3,lq4,lq5,lq6]
 refine wpAnyT_ready (rs:=[1]) (by kernel_rfl) (by simp) ?_;refine AllReadyT.cons rfl (fun K hK=>?_) AllReadyT.nil;have PC:=qh fun W (h:Par W g r81 V d)=>plain_any h R74.out
 go_simp;go_at_call 158
 refine (PC.out _ P75.out).mono ?_;rintro e w15 hgv;rcases hp:plainP r81 with ⟨a1,r8⟩|⟨n9,t9⟩
 rotate_left
 ·rw [hp] at hgv
  obtain ⟨rfl,hg⟩:=hgv;have hq:=HR73.out;rw [hp] at hq;go_wp2;exact ⟨rfl,Gv.badOf hq.symm (gr_trans G1.out hg)⟩
 rw [hp] at hgv;obtain ⟨⟨v9,rfl,hG⟩,hP9,hr9,hg⟩:=hgv;have hq:=HR73.out;rw [hp] at hq;try rw [bind_okE] at hq
 have HR88:=qh hq;clear hq HR73;have P89:=qh hP9;have R90:=qh hr9;replace X4:=hbq hg Z87 X4;replace X31:=hbq hg Z87 X31;replace X55:=hbq hg Z87 X55;clear P75;replace G1:=gtr G1 hg;have Z95:=hzz hg Z87;clear hg hP9 hr9 R74;obtain rfl:=hG;go_wp2_with fail
 refine hK.out _ _ ⟨X31.out,X55.out⟩ (fun hHeld=>?_);clear hK K;try simp only [lq0,lq7,lq1,lq2,lq3,lq4,lq5,lq6]
 refine tkr (i:=6) rfl ?_;try simp only [lq0,lq7,lq1,lq2,lq3,lq4,lq5,lq6]
 refine wpAnyT_ready (rs:=[7]) (by kernel_rfl) (by simp) ?_;refine AllReadyT.cons rfl (fun K hK=>?_) AllReadyT.nil;refine t_store X4.out 60 2 37 rfl rfl rfl (vC ⟨[],a1,0,true,lo.n,hi.n,0,0⟩) rfl rfl rfl (by kernel_rfl) (vC_one _) ?_;intro w16 hx hg hs;have X96:=qh hx;have Z97:=qh (And.intro hs Z95.out);clear hx hs X4;replace X31:=hbq hg Z95 X31;replace X55:=hbq hg Z95 X55;replace P89:=pgq hg Z95 P89;replace G1:=hgq hg G1 Z95;have Z102:=hzz hg Z97;clear hg;refine hK.out _ _ ⟨X31.out,X55.out⟩ (fun hHeld=>?_);clear hK K;try simp only [lq0,lq7,lq1,lq2,lq3,lq4,lq5,lq6]
 refine wpAnyT_done (by kernel_rfl) ?_ _;go_wp2;refine bodyPost_ret (k.results_cell rfl rfl (run_loadVar_mid _ w.heap.size 0 60 _ _ X96.out.range rfl rfl (by kernel_rfl))) rfl ?_;exact Gv.okOf HR88.out.symm rfl P89.out R90.out G1.out
theorem kind_any (hP:Par w g r V d) (hr:RowOk r):Calls Tryz.prog 140 #[.pointer (some ⟨g,0,none⟩)] w (Gv g V d w GotT (typeP r)):=by
 obtain ⟨R,hR⟩:∃ R:Res (Int×Bool×Int×Int),(typeP r)=R:=⟨_,rfl⟩;rw [hR];have HR:=qh hR;clear hR;have P1:=qh hP;have G1:=qh (gr_refl w (some g));have R1:=qh hr;have Z1:=qh (show g<w.heap.size from hP.lt);clear hP hr;go_enter Tryz.func140,Tryz.ntmps140
 go_upto_region 1 with (fail)
 obtain ⟨hb,hx,hz⟩:=znew w #[.string ⟨#[]⟩,.int .i64 0,.int .i64 0,.bool false,.int .i64 0,.int .i64 0,.int .i64 0,.int .i64 0] 60;generalize w.alloc (.cells #[.string ⟨#[]⟩,.int .i64 0,.int .i64 0,.bool false,.int .i64 0,.int .i64 0,.int .i64 0,.int .i64 0] 60)=w4 at *;have hg:=gr_of (row:=some w.heap.size) hb;have Z2:=qh (And.intro hz Z1.out);have X3:=qh hx;clear hb hx hz;replace P1:=pgq hg Z1 P1;replace G1:=hgq hg G1 Z1;have Z6:=hzz hg Z2;clear hg;by_cases h0:txt r=[65,82,82,65,89]
 ·skip
  have hq:=HR.out;rw [type_array h0] at hq;have HR7:=qh hq;clear hq HR;have AC:=qh fun W (h:Par W g r V d)=>array_any h R1.out h0
  rw [HR7.out] at AC;have HA:=qh (head_any P1.out R1.out);unfold sv at HA;have q0:((⟨(headS (tr.hd (r))).toArray⟩:ByteArray).toList==[65,82,82,65,89])=true:=by rw [ByteArray.toList_eq];exact beq_iff_eq.2 (hyq R1 h0)
  generalize (⟨(headS (tr.hd (r))).toArray⟩:ByteArray)=XH at *;go_wp2_with (go_at_call 72;fail)
  refine (HA.out).mono ?_;rintro e w5 ⟨rfl,hb⟩;have hg:=gr_of (row:=some w4.heap.size) hb;have X8:=hbq hg Z6 X3;clear X3;have P9:=pgq hg Z6 P1;clear P1;have G10:=hgq hg G1 Z6;clear G1;have Z11:=hzz hg Z6;clear hg hb HA HR7;go_wp2_with (go_at_call 156;fail)
  refine (AC.out _ P9.out).mono ?_;rintro e w6 hgv;rcases R with ⟨a1,r1⟩|⟨n9,t9⟩
  rotate_left
  ·skip
   obtain ⟨rfl,hg⟩:=hgv;go_wp2;exact ⟨rfl,Gv.badOf rfl (gr_trans G10.out hg)⟩
  obtain ⟨⟨v9,rfl,hG⟩,hP9,hr9,hg⟩:=hgv;have P12:=qh hP9;have R13:=qh hr9;have X14:=hbq hg Z11 X8;clear X8 P9;have G15:=gtr G10 hg;clear G10;have Z16:=hzz hg Z11;clear hg hP9 hr9 R1;obtain rfl:=hG;go_wp2_with ((with_reducible refine m_store X14.out 60 2 8 ?_ ?_ ?_ (vC ⟨[],a1.1,0,a1.2.1,a1.2.2.1,a1.2.2.2,0,0⟩) ?_ ?_ ?_ ?_ (vC_one _) ?_);rfl;rfl;rfl;rfl;rfl;rfl;kernel_rfl;intro w7 hx hg hs)
  have X17:=qh hx;have Z18:=qh (And.intro hs Z16.out);clear hx hs X14;replace P12:=pgq hg Z16 P12;replace G15:=hgq hg G15 Z16;have Z21:=hzz hg Z18;clear hg;refine bodyPost_ret (k.results_cell rfl rfl (run_loadVar_mid _ w.heap.size 0 60 _ _ X17.out.range rfl rfl (by kernel_rfl))) rfl ?_;exact Gv.okOf rfl rfl P12.out R13.out G15.out
 by_cases h1:(tr.hd r).kind=1
 ·skip
  have hq:=HR.out;rw [type_block h1] at hq;have HR7:=qh hq;clear hq HR;have hh:=((headS_kind R1.out).1).2 h1;have AC:=qh fun W (h:Par W g r V d)=>blockKind_any h R1.out
  have HA:=qh (head_any P1.out R1.out);unfold sv at HA;have q0:((⟨(headS (tr.hd (r))).toArray⟩:ByteArray).toList==[65,82,82,65,89])=false:=by rw [ByteArray.toList_eq];exact (by rw [hh];rfl)
  have q1:((⟨(headS (tr.hd (r))).toArray⟩:ByteArray).toList==[110,97,109,101])=true:=by rw [ByteArray.toList_eq];exact (by rw [hh];rfl)
  generalize (⟨(headS (tr.hd (r))).toArray⟩:ByteArray)=XH at *;go_wp2_with (go_at_call 72;fail)
  refine (HA.out).mono ?_;rintro e w5 ⟨rfl,hb⟩;have hg:=gr_of (row:=some w4.heap.size) hb;have X8:=hbq hg Z6 X3;clear X3;have P9:=pgq hg Z6 P1;clear P1;have G10:=hgq hg G1 Z6;clear G1;have Z11:=hzz hg Z6;clear hg hb HA hh;go_wp2_with (go_at_call 157;fail)
  refine (AC.out _ P9.out).mono ?_;rintro e w6 hgv;rcases hp:blockP r with ⟨a1,r1⟩|⟨n9,t9⟩
  rotate_left
  ·rw [hp] at hgv
   obtain ⟨rfl,hg⟩:=hgv;have hq:=HR7.out;rw [hp] at hq;go_wp2;exact ⟨rfl,Gv.badOf hq.symm (gr_trans G10.out hg)⟩
  rw [hp] at hgv;obtain ⟨⟨v9,rfl,hG⟩,hP9,hr9,hg⟩:=hgv;have hq:=HR7.out;rw [hp] at hq;try rw [bind_okE] at hq
  have HR12:=qh hq;clear hq HR7;have P13:=qh hP9;have R14:=qh hr9;have X15:=hbq hg Z11 X8;clear X8 P9;have G16:=gtr G10 hg;clear G10;have Z17:=hzz hg Z11;clear hg hP9 hr9 R1;obtain rfl:=hG;go_wp2_with ((with_reducible refine m_store X15.out 60 2 13 ?_ ?_ ?_ (vC ⟨[],a1,0,false,0,0,0,0⟩) ?_ ?_ ?_ ?_ (vC_one _) ?_);rfl;rfl;rfl;rfl;rfl;rfl;kernel_rfl;intro w7 hx hg hs)
  have X18:=qh hx;have Z19:=qh (And.intro hs Z17.out);clear hx hs X15;have P20:=pgq hg Z17 P13;clear P13;have G21:=hgq hg G16 Z17;clear G16;have Z22:=hzz hg Z19;clear hg;refine bodyPost_ret (k.results_cell rfl rfl (run_loadVar_mid _ w.heap.size 0 60 _ _ X18.out.range rfl rfl (by kernel_rfl))) rfl ?_;exact Gv.okOf HR12.out.symm rfl P20.out R14.out G21.out
 have hq:=HR.out;rw [type_plain h0 h1] at hq;have HR7:=qh hq;clear hq HR;have AC:=qh fun W (h:Par W g r V d)=>plain_any h R1.out
 have HA:=qh (head_any P1.out R1.out);unfold sv at HA;have q0:((⟨(headS (tr.hd (r))).toArray⟩:ByteArray).toList==[65,82,82,65,89])=false:=by rw [ByteArray.toList_eq];exact beq_eq_false_iff_ne.2 (hnq R1 h0)
 have q1:((⟨(headS (tr.hd (r))).toArray⟩:ByteArray).toList==[110,97,109,101])=false:=by rw [ByteArray.toList_eq];exact beq_eq_false_iff_ne.2 (mt ((headS_kind R1.out).1).1 h1)
 generalize (⟨(headS (tr.hd (r))).toArray⟩:ByteArray)=XH at *;go_wp2_with (go_at_call 72;fail)
 refine (HA.out).mono ?_;rintro e w5 ⟨rfl,hb⟩;have hg:=gr_of (row:=some w4.heap.size) hb;have X8:=hbq hg Z6 X3;clear X3;have P9:=pgq hg Z6 P1;clear P1;have G10:=hgq hg G1 Z6;clear G1;have Z11:=hzz hg Z6;clear hg hb HA;go_wp2_with (go_at_call 158;fail)
 refine (AC.out _ P9.out).mono ?_;rintro e w6 hgv;rcases hp:plainP r with ⟨a1,r1⟩|⟨n9,t9⟩
 rotate_left
 ·rw [hp] at hgv
  obtain ⟨rfl,hg⟩:=hgv;have hq:=HR7.out;rw [hp] at hq;go_wp2;exact ⟨rfl,Gv.badOf hq.symm (gr_trans G10.out hg)⟩
 rw [hp] at hgv;obtain ⟨⟨v9,rfl,hG⟩,hP9,hr9,hg⟩:=hgv;have hq:=HR7.out;rw [hp] at hq;try rw [bind_okE] at hq
 have HR12:=qh hq;clear hq HR7;have P13:=qh hP9;have R14:=qh hr9;have X15:=hbq hg Z11 X8;clear X8 P9;have G16:=gtr G10 hg;clear G10;have Z17:=hzz hg Z11;clear hg hP9 hr9 R1;obtain rfl:=hG;go_wp2_with ((with_reducible refine m_store X15.out 60 2 16 ?_ ?_ ?_ (vC ⟨[],a1,0,false,0,0,0,0⟩) ?_ ?_ ?_ ?_ (vC_one _) ?_);rfl;rfl;rfl;rfl;rfl;rfl;kernel_rfl;intro w7 hx hg hs)
 have X18:=qh hx;have Z19:=qh (And.intro hs Z17.out);clear hx hs X15;have P20:=pgq hg Z17 P13;clear P13;have G21:=hgq hg G16 Z17;clear G16;have Z22:=hzz hg Z19;clear hg;refine bodyPost_ret (k.results_cell rfl rfl (run_loadVar_mid _ w.heap.size 0 60 _ _ X18.out.range rfl rfl (by kernel_rfl))) rfl ?_;exact Gv.okOf HR12.out.symm rfl P20.out R14.out G21.out
end
structure Fr (g:Nat) (V:Value) (w w':World):Prop where
 os:w'.os=w.os
 tape:w'.tape=w.tape
 output:w'.output=w.output
 size:w.heap.size≤w'.heap.size
 block:∀ q,q<w.heap.size→q≠g→V.ownBlock≠some q→w'.heap[q]?=w.heap[q]?
theorem Fr.refl (g:Nat) (V:Value) (w:World):Fr g V w w:=⟨rfl,rfl,rfl,Nat.le_refl _,fun _ _ _ _=>rfl⟩
theorem Fr.step {g:Nat} {V:Value} {w c c':World} {q:Nat} (h:Fr g V w c) (hg:c.grownBy c' (some q)) (hq:q=g∨V.ownBlock=some q∨w.heap.size≤q):Fr g V w c':=
 ⟨hg.os.trans h.os,hg.tape.trans h.tape,hg.output.trans h.output,Nat.le_trans h.size hg.size,fun k hk h1 h2=>(hg.block k (Nat.lt_of_lt_of_le hk h.size) (fun e=>by
  injection e with e
  subst e;rcases hq with hq|hq|hq
  ·exact h1 hq
  ·exact h2 hq
  ·omega)).trans (h.block k hk h1 h2)⟩
def LinkV (V:Value) (w:World) (V1:Value):Prop:=∀ q,V1.ownBlock=some q→V.ownBlock=some q∨w.heap.size≤q
theorem LinkV.refl (V:Value) (w:World):LinkV V w V:=fun _ e=>.inl e
theorem LinkV.trans {V V1 V2:Value} {w c:World} (h:LinkV V w V1) (hs:w.heap.size≤c.heap.size) (h2:LinkV V1 c V2):LinkV V w V2:=fun q e=>(h2 q e).elim (fun e=>h q e) (fun h=>.inr (Nat.le_trans hs h))
theorem Fr.thenV {g:Nat} {V V1:Value} {w c c':World} (h:Fr g V w c) (h2:Fr g V1 c c') (hl:LinkV V w V1):Fr g V w c':=
 ⟨h2.os.trans h.os,h2.tape.trans h.tape,h2.output.trans h.output,Nat.le_trans h.size h2.size,fun k hk a1 a2=>(h2.block k (Nat.lt_of_lt_of_le hk h.size) a1 (fun e=>(hl k e).elim a2 (fun h=>by omega))).trans (h.block k hk a1 a2)⟩
theorem Fr.grown {g:Nat} {w c:World} (h:Fr g (.slice none 0 0) w c):w.grownBy c (some g):=⟨h.os,h.tape,h.output,h.size,fun k hk hne=>h.block k hk (fun e=>hne (by rw [e])) (by simp [Value.ownBlock])⟩
def GvV (g d:Nat) (V:Value) (w:World) (p:Res (List Va)) (e:Ending) (w':World):Prop:=match p with
 | .ok vs r=>e=.returned (.tuple #[])∧RowOk r∧Fr g V w w'∧∃ V',LinkV V w V'∧Par w' g r V' d∧Ow vC 8 60 w' (g+1) V' vs
 | .bad n t=>e=.panicked [{v:=mis n t,recovered:=false}]∧Fr g V w w'
theorem GvV.badOf {g d:Nat} {V:Value} {w w':World} {p:Res (List Va)} {n:Int} {t:Tk} (hp:p=.bad n t) (hb:Fr g V w w'):GvV g d V w p (.panicked [{v:=mis n t,recovered:=false}]) w':=by
 subst hp;exact ⟨rfl,hb⟩
theorem GvV.okOf {g d:Nat} {V:Value} {w w':World} {p:Res (List Va)} {vs:List Va} {r:Sg} {V':Value} (hp:p=.ok vs r) (hr:RowOk r) (hb:Fr g V w w') (hl:LinkV V w V') (hP:Par w' g r V' d) (hO:Ow vC 8 60 w' (g+1) V' vs):GvV g d V w p (.returned (.tuple #[])) w':=by
 subst hp;exact ⟨rfl,hr,hb,V',hl,hP,hO⟩
def newV (sec:Int) (t:Tk):Va:=⟨t.text,0,sec,false,0,0,0,t.line⟩
def tokP (m:Nat) (r:Sg):Res Tk:=if 64<m+1 then .bad 13 (hd r) else want 1 r
theorem vars_slice:Tryz.prog.underlying 22=some (.slice 60):=by kernel_rfl
theorem var_info:(Tryz.prog.info? 60).map (fun i=>(i.zero,i.size,i.bytes))=some (some (.agg #[.string ⟨#[]⟩,.int .i64 0,.int .i64 0,.bool false,.int .i64 0,.int .i64 0,.int .i64 0,.int .i64 0]),8,72):=by kernel_rfl
theorem bs_V (v:Va) (w:World):(Instr.buildSlice 22 1 #[(0,.agg (vC v).toArray)]).run Tryz.prog w=.ok (.slice (some ⟨w.heap.size,0,none⟩) 1 1) (w.alloc (.cells (vC v).toArray 60)):=by kernel_rfl
section
variable {r:Sg} {V:Value} {d g:Nat} {w:World}
theorem variable_any (hP:Par w g r V d) (hr:RowOk r) {vs:List Va} (hO:Ow vC 8 60 w (g+1) V vs) (hv:vs.length≤64) (sec:Int) :
  Calls Tryz.prog 113 #[.pointer (some ⟨g,0,none⟩),.int .i64 sec] w (GvV g d V w ((tokP vs.length r).bind fun t r'=>.ok (vs++[newV sec t]) r')):=by
 obtain ⟨R,hR⟩:∃ R:Res (List Va),((tokP vs.length r).bind fun t r'=>.ok (vs++[newV sec t]) r')=R:=⟨_,rfl⟩;rw [hR];have HR:=qh hR;clear hR;obtain ⟨A9,cap9,rfl,hrd⟩:=hO.form vC_len;have hnl:(vs.length:Int)≤9223372036854775807:=by omega
 have O1:=qh hO;have OHD:=qh hO;have HV:=qh hv;clear hO hrd hv;have P1:=qh hP;have G1:=qh (Fr.refl g (.slice A9 vs.length cap9) w);have R1:=qh hr;have Z1:=qh (show g<w.heap.size from hP.lt);clear hP hr;have hq:=HR.out;unfold tokP at hq;have HR2:=qh hq;clear hq HR;obtain ⟨A1,c1,hB1,hR1⟩:=P1.out;have ⟨a0,k0,a1,k1,a2,k2,_⟩:=hB1;clear hB1 hR1;go_enter Tryz.func113,Tryz.ntmps113
 by_cases h64:64<vs.length+1
 ·skip
  have hq:=HR2.out;rw [if_pos h64] at hq;have HR3:=qh hq;clear hq HR2;have q64:((vs.length:Int)==64)=true:=by rw [beq_iff_eq];have:=HV.out;omega
  go_wp2_with (go_at_call 74;fail)
  refine (next_any P1.out R1.out).mono ?_;rintro e w4 ⟨rfl,hb⟩;have hg:=gr_of (row:=some w.heap.size) hb;replace O1:=oqq hg Z1 O1;replace P1:=pgq hg Z1 P1;have G6:=qh (G1.out.step hg (.inr (.inr (qq Z1))));clear G1;have Z7:=hzz hg Z1;clear hg hb;go_wp2_with (go_at_call 73;fail)
  refine (fail_any 13 (tr.hd r) _).mono ?_;rintro e wz ⟨rfl,hb⟩;go_wp2;exact ⟨rfl,GvV.badOf HR3.out.symm (G6.out.step (gr_of (row:=some w4.heap.size) hb) (.inr (.inr (qq Z7))))⟩
 have hq:=HR2.out;rw [if_neg h64] at hq;have HR3:=qh hq;clear hq HR2;have q64:((vs.length:Int)==64)=false:=by rw [beq_eq_false_iff_ne];omega
 go_upto_region 2 with (fail)
 clear a0 k0 a1 k1 a2 k2 q64;by_cases hs4:(tr.hd (r)).kind=1
 rotate_left
 ·have hq:=HR3.out
  rw [want_badE hs4] at hq;go_wp2_with (go_at_call 47;fail)
  refine (need_no P1.out R1.out (mt (headS_kind R1.out).1.1 hs4)).mono ?_;rintro e w4 ⟨rfl,hb⟩;go_wp2;exact ⟨rfl,GvV.badOf hq.symm (G1.out.step (gr_of (row:=some w.heap.size) hb) (.inr (.inr (qq Z1))))⟩
 have hq:=HR3.out;rw [want_okE hs4,bind_okE] at hq;have HR5:=qh hq;clear hq HR3;have R6:=qh (R1.out.drop (by rw [hs4];decide));go_wp2_with (go_at_call 47;fail)
 refine (need_yes P1.out R1.out ((headS_kind R1.out).1.2 hs4)).mono ?_;rintro e w4 ⟨rfl,hp,hg⟩;have P7:=qh hp;replace O1:=oqq hg Z1 O1;clear P1;have G9:=qh (G1.out.step hg (.inl rfl));clear G1;have Z10:=hzz hg Z1;clear hg hp R1;generalize ((r).drop 1)=r11 at *;go_upto_region 3 with ((with_reducible refine m_new 34 4 15 ?_ ?_ ?_ (tC (tr.hd (r))) ?_ ?_ ?_ ?_ (tC_one _) ?_);rfl;rfl;rfl;rfl;rfl;rfl;kernel_rfl;intro w5 hx hb hz)
 have hg:=gr_of (row:=some w4.heap.size) hb;have Z12:=qh (And.intro hz Z10.out);have X13:=qh hx;clear hb hx hz;replace O1:=oqq hg Z10 O1;replace P7:=pgq hg Z10 P7;have G16:=qh (G9.out.step hg (.inr (.inr (qq Z10))));clear G9;have Z17:=hzz hg Z12;clear hg;generalize tr.hd (r)=t at *;obtain ⟨A2,c2,hB2,hR2⟩:=P7.out;have XG:=qh hB2;have RG:=qh hR2;clear hB2 hR2 P7;refine wp_region_T (by kernel_rfl) (fun w'=>Box w' (g) 0 ([.slice A2 r11.length c2,.slice A9 vs.length cap9,.int .i64 d])∧Box w' (w4.heap.size) 0 (tC t)) [15] ⟨box_drew XG.out,box_drew X13.out⟩ (fun hHeld=>?_);have hb:=(Below.refl w5.heap.size w5).drew;generalize w5.drew=w6 at *;have hg:=gr_of (row:=some w5.heap.size) hb;replace X13:=hbq hg Z17 X13;replace XG:=hbq hg Z17 XG;replace O1:=oqq hg Z17 O1;have RG21:=qh (rd_gr RG.out hg (qq Z17) (qq Z17));clear RG;have G22:=qh (G16.out.step hg (.inr (.inr (qq Z17))));clear G16;have Z23:=hzz hg Z17;clear hg hb;refine tkr (i:=0) rfl ?_;try simp only [lq0,lq7,lq1,lq2,lq3,lq4,lq5,lq6]
 refine tkr (i:=1) rfl ?_;try simp only [lq0,lq7,lq1,lq2,lq3,lq4,lq5,lq6]
 refine tkr (i:=2) rfl ?_;try simp only [lq0,lq7,lq1,lq2,lq3,lq4,lq5,lq6]
 refine tkr (i:=3) rfl ?_;try simp only [lq0,lq7,lq1,lq2,lq3,lq4,lq5,lq6]
 refine tkq (i:=4) (v:=?_) rfl ?_ ?_;rotate_left 1
 ·intro w_ hSw;obtain ⟨_,_,g1,_⟩:=hSw.1;go_simp<;>(with_reducible rfl)
 try simp only [lq0,lq7,lq1,lq2,lq3,lq4,lq5,lq6]
 refine tkr (i:=5) rfl ?_;try simp only [lq0,lq7,lq1,lq2,lq3,lq4,lq5,lq6]
 refine tkq (i:=6) (v:=?_) rfl ?_ ?_;rotate_left 1
 ·intro w_ hSw;obtain ⟨c1,_⟩:=cell_of hSw.2 (i:=1) rfl;go_simp<;>(with_reducible rfl)
 try simp only [lq0,lq7,lq1,lq2,lq3,lq4,lq5,lq6]
 refine tkr (i:=7) rfl ?_;try simp only [lq0,lq7,lq1,lq2,lq3,lq4,lq5,lq6]
 refine tkr (i:=8) rfl ?_;try simp only [lq0,lq7,lq1,lq2,lq3,lq4,lq5,lq6]
 refine tkq (i:=9) (v:=?_) rfl ?_ ?_;rotate_left 1
 ·intro w_ hSw;obtain ⟨c3,_⟩:=cell_of hSw.2 (i:=3) rfl;go_simp<;>(with_reducible rfl)
 try simp only [lq0,lq7,lq1,lq2,lq3,lq4,lq5,lq6]
 refine tkr (i:=10) rfl ?_;try simp only [lq0,lq7,lq1,lq2,lq3,lq4,lq5,lq6]
 refine wpAnyT_ready (rs:=[11]) (by kernel_rfl) (by simp) ?_;refine AllReadyT.cons rfl (fun K hK=>?_) AllReadyT.nil;refine t_slice1 (enc:=vC) (z:=8) (newV sec t) 22 60 26 (.agg (vC (newV sec t)).toArray) (vC (newV sec t)).toArray rfl rfl rfl (bs_V (newV sec t)) rfl ?_;intro w7 hrb hb1 hz1;have HRB:=qh hrb;have HB1:=qh hb1;have HZ1:=qh hz1;clear hrb hb1 hz1;have hg:=gr_of (row:=some w6.heap.size) HB1.out;have Z24:=qh (And.intro HZ1.out Z23.out);have E25:=HRB;clear HZ1 HRB;replace X13:=hbq hg Z23 X13;replace XG:=hbq hg Z23 XG;replace O1:=oqq hg Z23 O1;have RG29:=qh (rd_gr RG21.out hg (qq Z23) (qq Z23));clear RG21;have G30:=qh (G22.out.step hg (.inr (.inr (qq Z23))));clear G22;have Z31:=hzz hg Z24;clear hg HB1;refine hK.out _ _ ⟨XG.out,X13.out⟩ (fun hHeld=>?_);clear hK K;try simp only [lq0,lq7,lq1,lq2,lq3,lq4,lq5,lq6]
 have LM:=qh (show vs.length+[newV sec t].length≤60000 by have:=HV.out;simp only [List.length_cons,List.length_nil];omega);refine wpAnyT_ready (rs:=[12]) (by kernel_rfl) (by simp) ?_;refine AllReadyT.cons rfl (fun K hK=>?_) AllReadyT.nil;have Z33:=qh (And.intro (show (g+1)≤w7.heap.size from (qq Z31)) Z31.out);refine step_append_row vC_len (by decide) vC_one vars_slice var_info rfl (by decide) _ rfl (.tmp 20) (.tmp 27) rfl (g+1) (.slice A9 vs.length cap9) vs rfl O1.out (w6.heap.size+1) (some ⟨w6.heap.size,0,none⟩) 1 1 [newV sec t] rfl (RB.toAt (fun b hb=>hb.2) E25.out) LM.out Z33.out.1 ?_;intro v8 w8 hown hgA hat;have HOWN:=qh hown;have HGA:=qh hgA;have HAT:=qh hat;clear hown hgA hat;obtain ⟨S34,hsv⟩:=Ow.sl vC_len HOWN.out;subst hsv;obtain ⟨q9,hq1,hq2,hg⟩:=grow_q O1.out (qq Z33) HGA.out;have HQ2:=qh hq2;have Z35:=qh (And.intro hq1 Z33.out);have Z36:=qh (And.intro (show q9<w.heap.size∨w7.heap.size≤q9 from hq2.imp (fun e=>(Ow.lt OHD.out e).2) id) Z35.out);clear hq1 hq2;have HOB37:=qh (show ∀ q0,(Sl.v S34).ownBlock=some q0→q0<w.heap.size∨w7.heap.size≤q0 from fun q0 e0=>HAT.out.elim (fun h=>.inl (Ow.lt OHD.out (h.symm.trans e0)).2) (fun h=>.inr (by rw [h] at e0;injection e0 with e0;omega)));have HLK38:=qh (show ∀ q0,(Sl.v S34).ownBlock=some q0→((.slice A9 vs.length cap9):Value).ownBlock=some q0∨w.heap.size≤q0 from fun q0 e0=>HAT.out.elim (fun h=>.inl (h.symm.trans e0)) (fun h=>.inr (by rw [h] at e0;injection e0 with e0;have z:=Z36.out;omega)));replace X13:=hbq hg Z36 X13;replace XG:=hbq hg Z36 XG;replace E25:=hrq hg Z36 E25;have RG42:=qh (rd_gr RG29.out hg (qq Z36) (qq Z36));clear RG29;have G43:=qh (G30.out.step hg (.inr (HQ2.out.imp id (fun h9=>(qq Z36)))));clear G30;have Z44:=hzz hg Z36;have O45:=HOWN;clear hg HOWN HGA HQ2 HAT O1;refine hK.out _ _ ⟨XG.out,X13.out⟩ (fun hHeld=>?_);clear hK K;try simp only [lq0,lq7,lq1,lq2,lq3,lq4,lq5,lq6]
 refine tkr (i:=13) rfl ?_;try simp only [lq0,lq7,lq1,lq2,lq3,lq4,lq5,lq6]
 refine tkr (i:=14) rfl ?_;try simp only [lq0,lq7,lq1,lq2,lq3,lq4,lq5,lq6]
 refine wpAnyT_ready (rs:=[15]) (by kernel_rfl) (by simp) ?_;refine AllReadyT.spoilt rfl (by kernel_rfl) (fun K hK=>?_) AllReadyT.nil;refine t_set1 (j:=1) XG.out (show 1<3 by decide) 22 30 28 rfl rfl rfl (Sl.v S34) rfl rfl (by first|rfl|(cases S34;rfl)) (by kernel_rfl) ?_;intro w9 hx hg hs;have hx:Box w9 g 0 [.slice A2 r11.length c2,Sl.v S34,.int .i64 d]:=hx;have X46:=qh hx;have Z47:=qh (And.intro hs Z44.out);clear hx hs XG;replace X13:=hbq hg Z44 X13;replace E25:=hrq hg Z44 E25;replace O45:=oqq hg Z44 O45;have RG51:=qh (rd_gr RG42.out hg (qq Z44) (qq Z44));clear RG42;have G52:=qh (G43.out.step hg (.inl rfl));clear G43;have Z53:=hzz hg Z47;clear hg;refine hK.out _ _ ?_;clear hK K;try simp only [lq0,lq7,lq1,lq2,lq3,lq4,lq5,lq6]
 refine wpAnyT_done (by kernel_rfl) ?_ _;go_wp2;refine end0 rfl rfl ?_;exact GvV.okOf HR5.out.symm R6.out G52.out HLK38.out ⟨A2,c2,X46.out,RG51.out⟩ O45.out
end
theorem flat_set {α:Type} {enc:α→List Value} {z:Nat} (hz:∀ x,(enc x).length=z):∀ (L:List α) (i f:Nat) (x x':α) (u:Value),L[i]?=some x→f<z→enc x'=(enc x).set f u→(L.set i x').flatMap enc=(L.flatMap enc).set (i*z+f) u
 | [],_,_,_,_,_,h,_,_=>by simp at h
 | y::L,0,f,x,x',u,h,hf,he=>by
  obtain rfl:y=x:=by simpa using h
  rw [List.set_cons_zero,List.flatMap_cons,List.flatMap_cons,he,Nat.zero_mul,Nat.zero_add,List.set_append_left _ _ (by rw [hz];exact hf)]
 | y::L,i+1,f,x,x',u,h,hf,he=>by
  rw [List.set_cons_succ,List.flatMap_cons,List.flatMap_cons,flat_set hz L i f x x' u (by simpa using h) hf he,List.set_append_right _ _ (by rw [hz,Nat.succ_mul];omega),hz];congr 2
  rw [Nat.succ_mul];omega
theorem ow_set {α:Type} {enc:α→List Value} {z:Nat} (hz:∀ x,(enc x).length=z) {t:TypeId} {w:World} {base b n cap:Nat} {L:List α} (h:Ow enc z t w base (.slice (some ⟨b,0,none⟩) n cap) L) {i f:Nat} {x x':α} {u:Value} (hi:L[i]?=some x) (hf:f<z) (he:enc x'=(enc x).set f u) :
  Ow enc z t (w.setCell ⟨b,i*z+f,none⟩ u) base (.slice (some ⟨b,0,none⟩) n cap) (L.set i x'):=by
 have hfl:=flat_set hz L i f x x' u hi hf he;have hil:=(List.getElem?_eq_some_iff.1 hi).1;have hlen:=flat_len enc z hz L;unfold Ow at h ⊢;rw [hfl,List.length_set];obtain ⟨h1,h2⟩:=h;refine ⟨by rw [List.length_set];exact h1,?_⟩;rcases h2 with ⟨h2,_⟩|⟨g,cap',cur,h2,hb,hg,hle,hmax,hcs,htake⟩
 ·cases h2
 ·injection h2 with h2 h3 h4
  injection h2 with h2
  injection h2 with h2
  subst h2 h4;refine .inr ⟨b,cap,cur.setIfInBounds (i*z+f) u,by rw [h3],hb,?_,hle,hmax,by rw [Array.size_setIfInBounds];exact hcs,?_⟩
  ·unfold World.setCell
   simp only [Array.getElem?_modify];rw [hg];simp
  ·rw [Array.toList_setIfInBounds,←htake,List.take_set]
def updV (ty:Int×Bool×Int×Int) (init:Int) (v:Va):Va:={v with type:=ty.1,array:=ty.2.1,lo:=ty.2.2.1,hi:=ty.2.2.2,init:=init}
def typQ (r:Sg):Res ((Int×Bool×Int×Int)×Int):=(typeP r).bind fun ty r'=>
 (if txt r'=[58,61] then (valueP (r'.drop 1)).bind fun v r'=>
   if ty.2.1=true∨2<ty.1∨(v.1=true∧ty.1=1)∨(v.1=false∧ty.1=2) then .bad 1 (hd r) else .ok v.2 r'
  else .ok 0 r').bind fun init r'=>.ok (ty,init) r'
section
variable {P:Program} {ops:Array Oper} {op:Oper} {a:Act} {w:World} {K:Act→World→Prop} {Q:Exit→Act→World→Prop} {E:Prop}
theorem t_setrow {α:Type} {enc:α→List Value} {z:Nat} (hz:∀ x,(enc x).length=z) {t:TypeId} {base b n cap:Nat} {L:List α} (hO:Ow enc z t w base (.slice (some ⟨b,0,none⟩) n cap) L) (i f:Nat) {x:α} (x':α) (u:Value) (hi:L[i]?=some x) (hf:f<z) (he:enc x'=(enc x).set f u) (hfr:∀ j,w.frozen? ⟨b,j,none⟩=false)
  (T tt uu q:Nat) (hq:q=i*z+f) (ho:op.op=.store T (.tmp tt) (.tmp uu)) (hg:op.guard=none) (hd:op.dst=none) (hx:a.eval (.tmp tt)=.pointer (some ⟨b,q,none⟩)) (hy:a.eval (.tmp uu)=u) (h1:u.oneCell'=true) (hi1:(P.info? T).map (·.size)=some 1)
  (h:∀ w',Ow enc z t w' base (.slice (some ⟨b,0,none⟩) n cap) (L.set i x')→w.grownBy w' (some b)→w'.heap.size=w.heap.size→K a w'):if Region.wanted op (yielded ops a.tmps)=true then Oper.wp P op a w K Q else E:=by
 refine t_wanted hg ?_;subst hq;have hc:u.cells=#[u]:=by cases u<;>first|rfl|cases h1
 have hcell:w.cell? ⟨b,i*z+f,none⟩=(enc x)[f]?:=by
  obtain ⟨v,hv⟩:∃ v,(enc x)[f]?=some v:=⟨_,List.getElem?_eq_getElem (by rw [hz];exact hf)⟩;have:=World.ownsRow.cells (g:=b) hO rfl (i*z+f) v (by rw [flat_at enc z hz L i f x hi hf,hv]);rw [hv];have e:(Addr.add ⟨b,0,none⟩ (i*z+f))=⟨b,i*z+f,none⟩:=by
   unfold Addr.add;by_cases h:i*z+f=0<;>simp [h];intro h2 h3;omega
  rwa [e] at this
 obtain ⟨v0,hv0⟩:∃ v,(enc x)[f]?=some v:=⟨_,List.getElem?_eq_getElem (by rw [hz];exact hf)⟩;rw [hv0] at hcell;have hthere:w.there b (i*z+f) 1:=by
  intro j hj;have:j=0:=by omega
  subst this;exact ⟨by rw [Nat.add_zero,hcell];rfl,by rw [Nat.add_zero];exact hfr _⟩
 have hrun:=run_storeCells_cells (P:=P) b (i*z+f) [u] 0 w (fun j hj=>by simpa using (hthere j (by simpa using hj)).1) (fun j hj=>by simpa using (hthere j (by simpa using hj)).2) (fun x hx'=>by
  simp only [List.mem_cons,List.not_mem_nil,or_false] at hx';subst hx';exact h1)
 simp only [Nat.add_zero] at hrun;have hst:(storeVar T ⟨b,i*z+f,none⟩ u).run P w=.ok () (w.setCells b (i*z+f) [u]):=by
  cases hq:P.info? T with
  | none=>simp [hq] at hi1
  | some i=>
   have hs:i.size=1:=by simpa [hq] using hi1
   simp [storeVar,sizeOf,typeInfo,hq,hc,hs,hrun]
 unfold Oper.wp execOp;simp only [ho,hx,hy,Instr.storeAt,Instr.sureAddr,Sem.run_bind,Sem.run_pure,Result.andThen_ok,hst];change K (a.put op.dst undef) _
 rw [hd];exact h _ (ow_set hz hO hi hf he) (gr_set w b _ u) (set_size _ _ _)
end
theorem ow_free {α:Type} {enc:α→List Value} {z:Nat} {t:TypeId} {w:World} {base b n cap:Nat} {L:List α} (h:Ow enc z t w base (.slice (some ⟨b,0,none⟩) n cap) L) (j:Nat):w.frozen? ⟨b,j,none⟩=false:=by
 rcases h.2 with ⟨h2,_⟩|⟨g,cap',cur,h2,hb,hg,_⟩
 ·cases h2
 ·injection h2 with h2
  injection h2 with h2
  injection h2 with h2
  subst h2;unfold World.frozen?;rw [hg];simp
end tr
end Go.Proofs.YtdefgghhkknnpaaGreatDoor

/- The landed parser's types and values. No condition but what each line says. The landed parser's variables: those of a line get their type and value. No condition but what each line says. -/
import Derived.Test.YtdefgghhkknnpaaGreatDoorB06
import Derived.Test.YtdefgghhkknnpaaGreatDoorB12
set_option linter.unusedVariables false
set_option linter.unusedSimpArgs false
set_option maxRecDepth 100000
set_option maxHeartbeats 40000000
namespace Go.Proofs.YtdefgghhkknnpaaGreatDoor
namespace tr
open ChangeShapes WideShapes ChangeAt RowKit k rr tk
theorem kind_eq (s:Str):sd.kindS ⟨s.toArray⟩=kindOf s:=by
 by_cases h0:s=[84,79,78]
 ·subst h0;kernel_rfl
 by_cases h1:s=[84,79,70]
 ·subst h1;kernel_rfl
 by_cases h2:s=[84,80]
 ·subst h2;kernel_rfl
 by_cases h3:s=[67,84,85]
 ·subst h3;kernel_rfl
 by_cases h4:s=[67,84,68]
 ·subst h4;kernel_rfl
 by_cases h5:s=[82,95,84,82,73,71]
 ·subst h5;kernel_rfl
 by_cases h6:s=[70,95,84,82,73,71]
 ·subst h6;kernel_rfl
 by_cases h7:s=[83,82]
 ·subst h7;kernel_rfl
 by_cases h8:s=[82,83]
 ·subst h8;kernel_rfl
 by_cases h9:s=[77,67,95,80,111,119,101,114]
 ·subst h9;kernel_rfl
 by_cases h10:s=[77,67,95,72,111,109,101]
 ·subst h10;kernel_rfl
 by_cases h11:s=[77,67,95,83,116,111,112]
 ·subst h11;kernel_rfl
 by_cases h12:s=[77,67,95,72,97,108,116]
 ·subst h12;kernel_rfl
 by_cases h13:s=[77,67,95,77,111,118,101,65,98,115,111,108,117,116,101]
 ·subst h13;kernel_rfl
 by_cases h14:s=[77,67,95,77,111,118,101,82,101,108,97,116,105,118,101]
 ·subst h14;kernel_rfl
 by_cases h15:s=[77,67,95,77,111,118,101,65,100,100,105,116,105,118,101]
 ·subst h15;kernel_rfl
 by_cases h16:s=[77,67,95,77,111,118,101,86,101,108,111,99,105,116,121]
 ·subst h16;kernel_rfl
 by_cases h17:s=[77,67,95,71,101,97,114,73,110]
 ·subst h17;kernel_rfl
 by_cases h18:s=[77,67,95,82,101,115,101,116]
 ·subst h18;kernel_rfl
 by_cases h19:s=[77,67,95,83,101,116,80,111,115,105,116,105,111,110]
 ·subst h19;kernel_rfl
 by_cases h20:s=[77,67,95,83,101,116,79,118,101,114,114,105,100,101]
 ·subst h20;kernel_rfl
 by_cases hz:s=[]
 ·subst hz;kernel_rfl
 have e1:kindOf s=0:=by
  unfold kindOf kinds;rw [List.find?_eq_none.2];intro k hk;simp only [List.mem_cons,List.not_mem_nil,or_false] at hk;rcases hk with rfl|rfl|rfl|rfl|rfl|rfl|rfl|rfl|rfl|rfl|rfl|rfl|rfl|rfl|rfl|rfl|rfl|rfl|rfl|rfl|rfl
  ·simpa using fun h=>h0 h.symm
  ·simpa using fun h=>h1 h.symm
  ·simpa using fun h=>h2 h.symm
  ·simpa using fun h=>h3 h.symm
  ·simpa using fun h=>h4 h.symm
  ·simpa using fun h=>h5 h.symm
  ·simpa using fun h=>h6 h.symm
  ·simpa using fun h=>h7 h.symm
  ·simpa using fun h=>h8 h.symm
  ·simpa using fun h=>h9 h.symm
  ·simpa using fun h=>h10 h.symm
  ·simpa using fun h=>h11 h.symm
  ·simpa using fun h=>h12 h.symm
  ·simpa using fun h=>h13 h.symm
  ·simpa using fun h=>h14 h.symm
  ·simpa using fun h=>h15 h.symm
  ·simpa using fun h=>h16 h.symm
  ·simpa using fun h=>h17 h.symm
  ·simpa using fun h=>h18 h.symm
  ·simpa using fun h=>h19 h.symm
  ·simpa using fun h=>h20 h.symm
 have ne:∀ t:Str,s≠t→¬ (⟨t.toArray⟩:ByteArray)=⟨s.toArray⟩:=fun t h e=>h (by
  have:=congrArg (fun x:ByteArray=>x.data.toList) e;simpa using this.symm)
 have n10:¬ (sd.shapeOf 10).name=⟨s.toArray⟩:=by rw [show (sd.shapeOf 10).name=⟨([84,79,78]:Str).toArray⟩ by kernel_rfl];exact ne _ h0
 have n11:¬ (sd.shapeOf 11).name=⟨s.toArray⟩:=by rw [show (sd.shapeOf 11).name=⟨([84,79,70]:Str).toArray⟩ by kernel_rfl];exact ne _ h1
 have n12:¬ (sd.shapeOf 12).name=⟨s.toArray⟩:=by rw [show (sd.shapeOf 12).name=⟨([84,80]:Str).toArray⟩ by kernel_rfl];exact ne _ h2
 have n13:¬ (sd.shapeOf 13).name=⟨s.toArray⟩:=by rw [show (sd.shapeOf 13).name=⟨([67,84,85]:Str).toArray⟩ by kernel_rfl];exact ne _ h3
 have n14:¬ (sd.shapeOf 14).name=⟨s.toArray⟩:=by rw [show (sd.shapeOf 14).name=⟨([67,84,68]:Str).toArray⟩ by kernel_rfl];exact ne _ h4
 have n15:¬ (sd.shapeOf 15).name=⟨s.toArray⟩:=by rw [show (sd.shapeOf 15).name=⟨([82,95,84,82,73,71]:Str).toArray⟩ by kernel_rfl];exact ne _ h5
 have n16:¬ (sd.shapeOf 16).name=⟨s.toArray⟩:=by rw [show (sd.shapeOf 16).name=⟨([70,95,84,82,73,71]:Str).toArray⟩ by kernel_rfl];exact ne _ h6
 have n17:¬ (sd.shapeOf 17).name=⟨s.toArray⟩:=by rw [show (sd.shapeOf 17).name=⟨([83,82]:Str).toArray⟩ by kernel_rfl];exact ne _ h7
 have n18:¬ (sd.shapeOf 18).name=⟨s.toArray⟩:=by rw [show (sd.shapeOf 18).name=⟨([82,83]:Str).toArray⟩ by kernel_rfl];exact ne _ h8
 have n19:¬ (sd.shapeOf 19).name=⟨s.toArray⟩:=by rw [show (sd.shapeOf 19).name=⟨([]:Str).toArray⟩ by kernel_rfl];exact ne _ hz
 have n20:¬ (sd.shapeOf 20).name=⟨s.toArray⟩:=by rw [show (sd.shapeOf 20).name=⟨([77,67,95,80,111,119,101,114]:Str).toArray⟩ by kernel_rfl];exact ne _ h9
 have n21:¬ (sd.shapeOf 21).name=⟨s.toArray⟩:=by rw [show (sd.shapeOf 21).name=⟨([77,67,95,72,111,109,101]:Str).toArray⟩ by kernel_rfl];exact ne _ h10
 have n22:¬ (sd.shapeOf 22).name=⟨s.toArray⟩:=by rw [show (sd.shapeOf 22).name=⟨([77,67,95,83,116,111,112]:Str).toArray⟩ by kernel_rfl];exact ne _ h11
 have n23:¬ (sd.shapeOf 23).name=⟨s.toArray⟩:=by rw [show (sd.shapeOf 23).name=⟨([77,67,95,72,97,108,116]:Str).toArray⟩ by kernel_rfl];exact ne _ h12
 have n24:¬ (sd.shapeOf 24).name=⟨s.toArray⟩:=by rw [show (sd.shapeOf 24).name=⟨([77,67,95,77,111,118,101,65,98,115,111,108,117,116,101]:Str).toArray⟩ by kernel_rfl];exact ne _ h13
 have n25:¬ (sd.shapeOf 25).name=⟨s.toArray⟩:=by rw [show (sd.shapeOf 25).name=⟨([77,67,95,77,111,118,101,82,101,108,97,116,105,118,101]:Str).toArray⟩ by kernel_rfl];exact ne _ h14
 have n26:¬ (sd.shapeOf 26).name=⟨s.toArray⟩:=by rw [show (sd.shapeOf 26).name=⟨([77,67,95,77,111,118,101,65,100,100,105,116,105,118,101]:Str).toArray⟩ by kernel_rfl];exact ne _ h15
 have n27:¬ (sd.shapeOf 27).name=⟨s.toArray⟩:=by rw [show (sd.shapeOf 27).name=⟨([77,67,95,77,111,118,101,86,101,108,111,99,105,116,121]:Str).toArray⟩ by kernel_rfl];exact ne _ h16
 have n28:¬ (sd.shapeOf 28).name=⟨s.toArray⟩:=by rw [show (sd.shapeOf 28).name=⟨([77,67,95,71,101,97,114,73,110]:Str).toArray⟩ by kernel_rfl];exact ne _ h17
 have n29:¬ (sd.shapeOf 29).name=⟨s.toArray⟩:=by rw [show (sd.shapeOf 29).name=⟨([77,67,95,82,101,115,101,116]:Str).toArray⟩ by kernel_rfl];exact ne _ h18
 have n30:¬ (sd.shapeOf 30).name=⟨s.toArray⟩:=by rw [show (sd.shapeOf 30).name=⟨([77,67,95,83,101,116,80,111,115,105,116,105,111,110]:Str).toArray⟩ by kernel_rfl];exact ne _ h19
 have n31:¬ (sd.shapeOf 31).name=⟨s.toArray⟩:=by rw [show (sd.shapeOf 31).name=⟨([77,67,95,83,101,116,79,118,101,114,114,105,100,101]:Str).toArray⟩ by kernel_rfl];exact ne _ h20
 rw [e1];unfold sd.kindS;rw [if_neg (fun e=>ne [] hz e.symm)];simp only [sd.kindFrom,Int.reduceAdd,n10,n11,n12,n13,n14,n15,n16,n17,n18,n19,n20,n21,n22,n23,n24,n25,n26,n27,n28,n29,n30,n31,if_false]
def GotT (x:Int×Bool×Int×Int) (w w':World) (v:Value):Prop:=v=.agg (vC ⟨[],x.1,0,x.2.1,x.2.2.1,x.2.2.2,0,0⟩).toArray
def GotP (x:Bool×Int) (w w':World) (v:Value):Prop:=v=.tuple #[.int .i64 x.2,.int .i64 (if x.1=true then 2 else 1)]
def plainP (r:Sg):Res Int:=if simpleT r≠0 then .ok (simpleT r) (r.drop 1) else .bad 5 (hd r)
def blockP (r:Sg):Res Int:=(want 1 r).bind fun t r'=>if kindOf t.text=0 then .bad 9 t else .ok (kindOf t.text) r'
def arrayP (r:Sg):Res (Int×Bool×Int×Int):=(need [91] (r.drop 1)).bind fun _ r'=>(want 3 r').bind fun lo r'=>(need [46,46] r').bind fun _ r'=>(want 3 r').bind fun hi r'=>
  if hi.n<lo.n∨255<hi.n then .bad 1 hi
  else (need [93] r').bind fun _ r'=>(need [79,70] r').bind fun _ r'=>(plainP r').bind fun t r'=>.ok (t,true,lo.n,hi.n) r'
theorem type_array {r:Sg} (h:txt r=[65,82,82,65,89]):typeP r=arrayP r:=by
 have hs:simpleT r=0:=by unfold simpleT;rw [h];decide
 unfold typeP;rw [hs,if_neg (by decide),if_pos h];unfold arrayP plainP fail;congr 1;funext _ r1;congr 1;funext lo r2;congr 1;funext _ r3;congr 1;funext hi r4
 split
 ·rfl
 ·congr 1;funext _ r5;congr 1;funext _ r6
  split<;>rfl
theorem type_block {r:Sg} (h:(hd r).kind=1):typeP r=(blockP r).bind fun t r'=>.ok (t,false,0,0) r':=by
 have ht:txt r=[]:=txt_none (by omega);have hs:simpleT r=0:=by unfold simpleT;rw [ht];decide
 unfold typeP;rw [hs,if_neg (by decide),ht,if_neg (by decide)];unfold blockP;rw [bind_bind];congr 1;funext t r1
 split<;>rfl
theorem type_plain {r:Sg} (h1:txt r≠[65,82,82,65,89]) (h2:(hd r).kind≠1):typeP r=(plainP r).bind fun t r'=>.ok (t,false,0,0) r':=by
 unfold typeP plainP;rw [if_neg h1,want_badE h2];split<;>rfl
section
variable {r:Sg} {V:Value} {d g:Nat} {w:World}
theorem plain_any (hP:Par w g r V d) (hr:RowOk r):Calls Tryz.prog 158 #[.pointer (some ⟨g,0,none⟩)] w (Gv g V d w GotI (plainP r)):=by
 obtain ⟨R,hR⟩:∃ R:Res Int,(plainP r)=R:=⟨_,rfl⟩;rw [hR];have HR:=qh hR;clear hR;have P1:=qh hP;have G1:=qh (gr_refl w (some g));have R1:=qh hr;have Z1:=qh (show g<w.heap.size from hP.lt);clear hP hr;have hq:=HR.out;unfold plainP at hq;have HR2:=qh hq;clear hq HR;go_enter Tryz.func158,Tryz.ntmps158
 by_cases h0:txt r=[73,78,84]
 ·skip
  have hq:=HR2.out;rw [show simpleT r=1 from if_pos h0,if_pos (by decide)] at hq;have HR3:=qh hq;clear hq HR2;have R4:=qh (R1.out.drop (txt_kind h0 (by decide)));go_wp2_with (go_at_call 76;fail)
  refine (take_yes P1.out R1.out (hyq R1 h0) (txt_kind h0 (by decide))).mono ?_;rintro e w4 ⟨rfl,hp,hg⟩;have P5:=qh hp;clear P1;replace G1:=gtr G1 hg;have Z7:=hzz hg Z1;clear hg hp R1;generalize ((r).drop 1)=r8 at *;go_wp2;go_ret
  exact Gv.okOf HR3.out.symm rfl P5.out R4.out G1.out
 go_wp2_with (go_at_call 76;fail)
 refine (take_no P1.out R1.out (hnq R1 h0)).mono ?_;rintro e w4 ⟨rfl,hb⟩;have hg:=gr_of (row:=some w.heap.size) hb;replace P1:=pgq hg Z1 P1;replace G1:=hgq hg G1 Z1;have Z5:=hzz hg Z1;clear hg hb;by_cases h1:txt r=[66,79,79,76]
 ·skip
  have hq:=HR2.out;rw [show simpleT r=2 from (if_neg h0).trans (if_pos h1),if_pos (by decide)] at hq;have HR6:=qh hq;clear hq HR2;have R7:=qh (R1.out.drop (txt_kind h1 (by decide)));go_wp2_with (go_at_call 47;fail)
  refine (need_yes P1.out R1.out (hyq R1 h1)).mono ?_;rintro e w5 ⟨rfl,hp,hg⟩;have P8:=qh hp;clear P1;replace G1:=gtr G1 hg;have Z10:=hzz hg Z5;clear hg hp R1;generalize (r.drop 1)=r11 at *;go_wp2;go_ret
  exact Gv.okOf HR6.out.symm rfl P8.out R7.out G1.out
 have hq:=HR2.out;rw [show simpleT r=0 from (if_neg h0).trans (if_neg h1),if_neg (by decide)] at hq;have HR6:=qh hq;clear hq HR2;have hq:=HR6.out;go_wp2_with (go_at_call 47;fail)
 refine (need_no P1.out R1.out (hnq R1 h1)).mono ?_;rintro e w5 ⟨rfl,hb⟩;go_wp2;exact ⟨rfl,Gv.badOf hq.symm (gr_trans G1.out (gr_of hb))⟩
theorem value_any (hP:Par w g r V d) (hr:RowOk r):Calls Tryz.prog 141 #[.pointer (some ⟨g,0,none⟩)] w (Gv g V d w GotP (valueP r)):=by
 obtain ⟨R,hR⟩:∃ R:Res (Bool×Int),(valueP r)=R:=⟨_,rfl⟩;rw [hR];have HR:=qh hR;clear hR;have P1:=qh hP;have G1:=qh (gr_refl w (some g));have R1:=qh hr;have Z1:=qh (show g<w.heap.size from hP.lt);clear hP hr;have hq:=HR.out;unfold valueP at hq;have HR2:=qh hq;clear hq HR;go_enter Tryz.func141,Tryz.ntmps141
 by_cases h0:txt r=[84,82,85,69]
 ·skip
  have hq:=HR2.out;rw [if_pos h0] at hq;have HR3:=qh hq;clear hq HR2;have R4:=qh (R1.out.drop (txt_kind h0 (by decide)));go_wp2_with (go_at_call 76;fail)
  refine (take_yes P1.out R1.out (hyq R1 h0) (txt_kind h0 (by decide))).mono ?_;rintro e w4 ⟨rfl,hp,hg⟩;have P5:=qh hp;clear P1;replace G1:=gtr G1 hg;have Z7:=hzz hg Z1;clear hg hp R1;generalize ((r).drop 1)=r8 at *;go_wp2;go_ret2
  exact Gv.okOf HR3.out.symm rfl P5.out R4.out G1.out
 go_wp2_with (go_at_call 76;fail)
 refine (take_no P1.out R1.out (hnq R1 h0)).mono ?_;rintro e w4 ⟨rfl,hb⟩;have hg:=gr_of (row:=some w.heap.size) hb;replace P1:=pgq hg Z1 P1;replace G1:=hgq hg G1 Z1;have Z5:=hzz hg Z1;clear hg hb;by_cases h1:txt r=[70,65,76,83,69]
 ·skip
  have hq:=HR2.out;rw [if_neg h0,if_pos h1] at hq;have HR6:=qh hq;clear hq HR2;have R7:=qh (R1.out.drop (txt_kind h1 (by decide)));go_wp2_with (go_at_call 76;fail)
  refine (take_yes P1.out R1.out (hyq R1 h1) (txt_kind h1 (by decide))).mono ?_;rintro e w5 ⟨rfl,hp,hg⟩;have P8:=qh hp;clear P1;replace G1:=gtr G1 hg;have Z10:=hzz hg Z5;clear hg hp R1;generalize ((r).drop 1)=r11 at *;go_wp2;go_ret2
  exact Gv.okOf HR6.out.symm rfl P8.out R7.out G1.out
 go_wp2_with (go_at_call 76;fail)
 refine (take_no P1.out R1.out (hnq R1 h1)).mono ?_;rintro e w5 ⟨rfl,hb⟩;have hg:=gr_of (row:=some w4.heap.size) hb;replace P1:=pgq hg Z5 P1;replace G1:=hgq hg G1 Z5;have Z8:=hzz hg Z5;clear hg hb;have hq:=HR2.out;rw [if_neg h0,if_neg h1] at hq;have HR9:=qh hq;clear hq HR2;have SG:=qh fun W (h:Par W g r V d)=>signed_any h R1.out
 go_wp2_with (go_at_call 159;fail)
 refine (SG.out _ P1.out).mono ?_;rintro e w6 hgv;rcases hp:intg r with ⟨a1,r1⟩|⟨n9,t9⟩
 rotate_left
 ·rw [hp] at hgv
  obtain ⟨rfl,hg⟩:=hgv;have hq:=HR9.out;rw [hp] at hq;go_wp2;exact ⟨rfl,Gv.badOf hq.symm (gr_trans G1.out hg)⟩
 rw [hp] at hgv;obtain ⟨⟨v9,rfl,hG⟩,hP9,hr9,hg⟩:=hgv;have hq:=HR9.out;rw [hp] at hq;try rw [bind_okE] at hq
 have HR10:=qh hq;clear hq HR9;have P11:=qh hP9;have R12:=qh hr9;clear P1;replace G1:=gtr G1 hg;have Z14:=hzz hg Z8;clear hg hP9 hr9 R1;obtain rfl:=hG;go_wp2;go_ret2
 exact Gv.okOf HR10.out.symm rfl P11.out R12.out G1.out
theorem blockKind_any (hP:Par w g r V d) (hr:RowOk r):Calls Tryz.prog 157 #[.pointer (some ⟨g,0,none⟩)] w (Gv g V d w GotI (blockP r)):=by
 obtain ⟨R,hR⟩:∃ R:Res Int,(blockP r)=R:=⟨_,rfl⟩;rw [hR];have HR:=qh hR;clear hR;have P1:=qh hP;have G1:=qh (gr_refl w (some g));have R1:=qh hr;have Z1:=qh (show g<w.heap.size from hP.lt);clear hP hr;have hq:=HR.out;unfold blockP at hq;have HR2:=qh hq;clear hq HR;go_enter Tryz.func157,Tryz.ntmps157
 by_cases hs3:(tr.hd (r)).kind=1
 rotate_left
 ·have hq:=HR2.out
  rw [want_badE hs3] at hq;go_wp2_with (go_at_call 47;fail)
  refine (need_no P1.out R1.out (mt (headS_kind R1.out).1.1 hs3)).mono ?_;rintro e w4 ⟨rfl,hb⟩;go_wp2;exact ⟨rfl,Gv.badOf hq.symm (gr_trans G1.out (gr_of hb))⟩
 have hq:=HR2.out;rw [want_okE hs3,bind_okE] at hq;have HR4:=qh hq;clear hq HR2;have R5:=qh (R1.out.drop (by rw [hs3];decide));go_wp2_with (go_at_call 47;fail)
 refine (need_yes P1.out R1.out ((headS_kind R1.out).1.2 hs3)).mono ?_;rintro e w4 ⟨rfl,hp,hg⟩;have P6:=qh hp;clear P1;replace G1:=gtr G1 hg;have Z8:=hzz hg Z1;clear hg hp R1;generalize ((r).drop 1)=r9 at *;go_upto_region 2 with ((with_reducible refine m_new 34 3 6 ?_ ?_ ?_ (tC (tr.hd (r))) ?_ ?_ ?_ ?_ (tC_one _) ?_);rfl;rfl;rfl;rfl;rfl;rfl;kernel_rfl;intro w5 hx hb hz)
 have hg:=gr_of (row:=some w4.heap.size) hb;have Z10:=qh (And.intro hz Z8.out);have X11:=qh hx;clear hb hx hz;replace P6:=pgq hg Z8 P6;replace G1:=hgq hg G1 Z8;have Z14:=hzz hg Z10;clear hg;have ⟨c1,_⟩:=cell_of X11.out (i:=1) rfl;have KA:=qh fun W=>sd.kind_any ⟨(tr.hd (r)).text.toArray⟩ W
 rw [kind_eq] at KA;go_wp2_with (go_at_call 177;fail)
 refine (KA.out _).mono ?_;rintro e w6 ⟨rfl,hb⟩;clear c1;have hg:=gr_of (row:=some w5.heap.size) hb;replace X11:=hbq hg Z14 X11;replace P6:=pgq hg Z14 P6;replace G1:=hgq hg G1 Z14;have Z18:=hzz hg Z14;clear hg hb KA;by_cases h0:kindOf (tr.hd (r)).text=0
 ·skip
  have hq:=HR4.out;rw [if_pos h0] at hq;have HR19:=qh hq;clear hq HR4;rw [h0];go_wp2_with (first|((with_reducible refine m_load X11.out 34 3 ?_ ?_ ?_ ?_ ?_ ?_);rfl;rfl;rfl;rfl;kernel_rfl)|(go_at_call 73;fail))
  refine (fail_any 9 (tr.hd (r)) _).mono ?_;rintro e w9 ⟨rfl,hb⟩;go_wp2;exact ⟨rfl,Gv.badOf HR19.out.symm (gr_trans G1.out (gr_of hb))⟩
 ·skip
  have hq:=HR4.out;rw [if_neg h0] at hq;have HR19:=qh hq;clear hq HR4;have q0:(kindOf (tr.hd (r)).text==0)=false:=by rw [beq_eq_false_iff_ne];exact h0
  go_wp2;go_ret
  exact Gv.okOf HR19.out.symm rfl P6.out R5.out G1.out
end
section
variable {r:Sg} {V:Value} {d g:Nat} {w:World}
theorem array_any (hP:Par w g r V d) (hr:RowOk r) (h0:txt r=[65,82,82,65,89]):Calls Tryz.prog 156 #[.pointer (some ⟨g,0,none⟩)] w (Gv g V d w GotT (arrayP r)):=by
 obtain ⟨R,hR⟩:∃ R:Res (Int×Bool×Int×Int),(arrayP r)=R:=⟨_,rfl⟩;rw [hR];have HR:=qh hR;clear hR;have P1:=qh hP;have G1:=qh (gr_refl w (some g));have R1:=qh hr;have Z1:=qh (show g<w.heap.size from hP.lt);clear hP hr;have hq:=HR.out;unfold arrayP at hq;have HR2:=qh hq;clear hq HR;go_enter Tryz.func156,Tryz.ntmps156
 go_upto_region 1 with (fail)
 obtain ⟨hb,hx,hz⟩:=znew w #[.string ⟨#[]⟩,.int .i64 0,.int .i64 0,.bool false,.int .i64 0,.int .i64 0,.int .i64 0,.int .i64 0] 60;generalize w.alloc (.cells #[.string ⟨#[]⟩,.int .i64 0,.int .i64 0,.bool false,.int .i64 0,.int .i64 0,.int .i64 0,.int .i64 0] 60)=w4 at *;have hg:=gr_of (row:=some w.heap.size) hb;have Z3:=qh (And.intro hz Z1.out);have X4:=qh hx;clear hb hx hz;replace P1:=pgq hg Z1 P1;replace G1:=hgq hg G1 Z1;have Z7:=hzz hg Z3;clear hg;have R8:=qh (R1.out.drop (txt_kind h0 (by decide)));go_wp2_with (go_at_call 47;fail)
 refine (need_yes P1.out R1.out (hyq R1 h0)).mono ?_;rintro e w5 ⟨rfl,hp,hg⟩;have P9:=qh hp;replace X4:=hbq hg Z7 X4;clear P1;replace G1:=gtr G1 hg;have Z12:=hzz hg Z7;clear hg hp R1 h0;generalize (r.drop 1)=r13 at *;by_cases hs14:txt (r13)=[91]
 rotate_left
 ·have hq:=HR2.out
  rw [need_badE hs14] at hq;go_wp2_with (go_at_call 47;fail)
  refine (need_no P9.out R8.out (hnq R8 hs14)).mono ?_;rintro e w6 ⟨rfl,hb⟩;go_wp2;exact ⟨rfl,Gv.badOf hq.symm (gr_trans G1.out (gr_of hb))⟩
 have hq:=HR2.out;rw [need_okE hs14,bind_okE] at hq;have HR15:=qh hq;clear hq HR2;have R16:=qh (R8.out.drop (txt_kind hs14 (by decide)));go_wp2_with (go_at_call 47;fail)
 refine (need_yes P9.out R8.out (hyq R8 hs14)).mono ?_;rintro e w6 ⟨rfl,hp,hg⟩;have P17:=qh hp;replace X4:=hbq hg Z12 X4;clear P9;replace G1:=gtr G1 hg;have Z20:=hzz hg Z12;clear hg hp R8;generalize ((r13).drop 1)=r21 at *;by_cases hs22:(tr.hd (r21)).kind=3
 rotate_left
 ·have hq:=HR15.out
  rw [want_badE hs22] at hq;go_wp2_with (go_at_call 47;fail)
  refine (need_no P17.out R16.out (mt (headS_kind R16.out).2.1.1 hs22)).mono ?_;rintro e w7 ⟨rfl,hb⟩;go_wp2;exact ⟨rfl,Gv.badOf hq.symm (gr_trans G1.out (gr_of hb))⟩
 have hq:=HR15.out;rw [want_okE hs22,bind_okE] at hq;have HR23:=qh hq;clear hq HR15;have R24:=qh (R16.out.drop (by rw [hs22];decide));go_wp2_with (go_at_call 47;fail)
 refine (need_yes P17.out R16.out ((headS_kind R16.out).2.1.2 hs22)).mono ?_;rintro e w7 ⟨rfl,hp,hg⟩;have P25:=qh hp;replace X4:=hbq hg Z20 X4;clear P17;replace G1:=gtr G1 hg;have Z28:=hzz hg Z20;clear hg hp R16;generalize ((r21).drop 1)=r29 at *;go_upto_region 4 with ((with_reducible refine m_new 34 3 10 ?_ ?_ ?_ (tC (tr.hd (r21))) ?_ ?_ ?_ ?_ (tC_one _) ?_);rfl;rfl;rfl;rfl;rfl;rfl;kernel_rfl;intro w8 hx hb hz)
 have hg:=gr_of (row:=some w7.heap.size) hb;have Z30:=qh (And.intro hz Z28.out);have X31:=qh hx;clear hb hx hz;replace X4:=hbq hg Z28 X4;replace P25:=pgq hg Z28 P25;replace G1:=hgq hg G1 Z28;have Z35:=hzz hg Z30;clear hg;by_cases hs36:txt (r29)=[46,46]
 rotate_left
 ·have hq:=HR23.out
  rw [need_badE hs36] at hq;go_wp2_with (go_at_call 47;fail)
  refine (need_no P25.out R24.out (hnq R24 hs36)).mono ?_;rintro e w9 ⟨rfl,hb⟩;go_wp2;exact ⟨rfl,Gv.badOf hq.symm (gr_trans G1.out (gr_of hb))⟩
 have hq:=HR23.out;rw [need_okE hs36,bind_okE] at hq;have HR37:=qh hq;clear hq HR23;have R38:=qh (R24.out.drop (txt_kind hs36 (by decide)));go_wp2_with (go_at_call 47;fail)
 refine (need_yes P25.out R24.out (hyq R24 hs36)).mono ?_;rintro e w9 ⟨rfl,hp,hg⟩;have P39:=qh hp;replace X4:=hbq hg Z35 X4;replace X31:=hbq hg Z35 X31;clear P25;replace G1:=gtr G1 hg;have Z43:=hzz hg Z35;clear hg hp R24;generalize ((r29).drop 1)=r44 at *;by_cases hs45:(tr.hd (r44)).kind=3
 rotate_left
 ·have hq:=HR37.out
  rw [want_badE hs45] at hq;go_wp2_with (go_at_call 47;fail)
  refine (need_no P39.out R38.out (mt (headS_kind R38.out).2.1.1 hs45)).mono ?_;rintro e w10 ⟨rfl,hb⟩;go_wp2;exact ⟨rfl,Gv.badOf hq.symm (gr_trans G1.out (gr_of hb))⟩
 have hq:=HR37.out;rw [want_okE hs45,bind_okE] at hq;have HR46:=qh hq;clear hq HR37;have R47:=qh (R38.out.drop (by rw [hs45];decide));go_wp2_with (go_at_call 47;fail)
 refine (need_yes P39.out R38.out ((headS_kind R38.out).2.1.2 hs45)).mono ?_;rintro e w10 ⟨rfl,hp,hg⟩;have P48:=qh hp;replace X4:=hbq hg Z43 X4;replace X31:=hbq hg Z43 X31;clear P39;replace G1:=gtr G1 hg;have Z52:=hzz hg Z43;clear hg hp R38;generalize ((r44).drop 1)=r53 at *;go_upto_region 6 with ((with_reducible refine m_new 34 4 14 ?_ ?_ ?_ (tC (tr.hd (r44))) ?_ ?_ ?_ ?_ (tC_one _) ?_);rfl;rfl;rfl;rfl;rfl;rfl;kernel_rfl;intro w11 hx hb hz)
 have hg:=gr_of (row:=some w10.heap.size) hb;have Z54:=qh (And.intro hz Z52.out);have X55:=qh hx;clear hb hx hz;replace X4:=hbq hg Z52 X4;replace X31:=hbq hg Z52 X31;replace P48:=pgq hg Z52 P48;replace G1:=hgq hg G1 Z52;have Z60:=hzz hg Z54;clear hg;generalize tr.hd (r21)=lo at *;generalize tr.hd (r44)=hi at *;have ⟨c2,_⟩:=cell_of X31.out (i:=2) rfl;have ⟨d2,_⟩:=cell_of X55.out (i:=2) rfl;by_cases hb1:hi.n<lo.n∨255<hi.n
 ·skip
  have hq:=HR46.out;rw [if_pos hb1] at hq;have HR61:=qh hq;clear hq HR46;by_cases hb2:hi.n<lo.n
  ·skip
   go_wp2_with (first|((with_reducible refine m_load X55.out 34 4 ?_ ?_ ?_ ?_ ?_ ?_);rfl;rfl;rfl;rfl;kernel_rfl)|(go_at_call 73;fail))
   refine (fail_any 1 hi _).mono ?_;rintro e w9 ⟨rfl,hb⟩;go_wp2;exact ⟨rfl,Gv.badOf HR61.out.symm (gr_trans G1.out (gr_of hb))⟩
  ·skip
   have hb3:255<hi.n:=hb1.resolve_left hb2;go_wp2_with (first|((with_reducible refine m_load X55.out 34 4 ?_ ?_ ?_ ?_ ?_ ?_);rfl;rfl;rfl;rfl;kernel_rfl)|(go_at_call 73;fail))
   refine (fail_any 1 hi _).mono ?_;rintro e w9 ⟨rfl,hb⟩;go_wp2;exact ⟨rfl,Gv.badOf HR61.out.symm (gr_trans G1.out (gr_of hb))⟩
 have hq:=HR46.out;rw [if_neg hb1] at hq;have HR61:=qh hq;clear hq HR46;have hb2:¬ hi.n<lo.n:=fun h=>hb1 (.inl h)
 have hb3:¬ 255<hi.n:=fun h=>hb1 (.inr h)
 clear hb1;go_upto_region 8 with (fail)
 clear c2 d2 hb2 hb3;by_cases hs62:txt (r53)=[93]
 rotate_left
 ·have hq:=HR61.out
  rw [need_badE hs62] at hq;go_wp2_with (go_at_call 47;fail)
  refine (need_no P48.out R47.out (hnq R47 hs62)).mono ?_;rintro e w12 ⟨rfl,hb⟩;go_wp2;exact ⟨rfl,Gv.badOf hq.symm (gr_trans G1.out (gr_of hb))⟩
 have hq:=HR61.out;rw [need_okE hs62,bind_okE] at hq;have HR63:=qh hq;clear hq HR61;have R64:=qh (R47.out.drop (txt_kind hs62 (by decide)));go_wp2_with (go_at_call 47;fail)
 refine (need_yes P48.out R47.out (hyq R47 hs62)).mono ?_;rintro e w12 ⟨rfl,hp,hg⟩;have P65:=qh hp;replace X4:=hbq hg Z60 X4;replace X31:=hbq hg Z60 X31;replace X55:=hbq hg Z60 X55;clear P48;replace G1:=gtr G1 hg;have Z70:=hzz hg Z60;clear hg hp R47;generalize ((r53).drop 1)=r71 at *;by_cases hs72:txt (r71)=[79,70]
 rotate_left
 ·have hq:=HR63.out
  rw [need_badE hs72] at hq;go_wp2_with (go_at_call 47;fail)
  refine (need_no P65.out R64.out (hnq R64 hs72)).mono ?_;rintro e w13 ⟨rfl,hb⟩;go_wp2;exact ⟨rfl,Gv.badOf hq.symm (gr_trans G1.out (gr_of hb))⟩
 have hq:=HR63.out;rw [need_okE hs72,bind_okE] at hq;have HR73:=qh hq;clear hq HR63;have R74:=qh (R64.out.drop (txt_kind hs72 (by decide)));go_wp2_with (go_at_call 47;fail)
 refine (need_yes P65.out R64.out (hyq R64 hs72)).mono ?_;rintro e w13 ⟨rfl,hp,hg⟩;have P75:=qh hp;replace X4:=hbq hg Z70 X4;replace X31:=hbq hg Z70 X31;replace X55:=hbq hg Z70 X55;clear P65;replace G1:=gtr G1 hg;have Z80:=hzz hg Z70;clear hg hp R64;generalize ((r71).drop 1)=r81 at *;go_upto_region 10 with (fail)
 refine wp_region_T (by kernel_rfl) (fun w'=>Box w' (w7.heap.size) 0 (tC lo)∧Box w' (w10.heap.size) 0 (tC hi)) [] ⟨box_drew X31.out,box_drew X55.out⟩ (fun hHeld=>?_);have hb:=(Below.refl w13.heap.size w13).drew;generalize w13.drew=w14 at *;have hg:=gr_of (row:=some w13.heap.size) hb;replace X4:=hbq hg Z80 X4;replace X31:=hbq hg Z80 X31;replace X55:=hbq hg Z80 X55;replace P75:=pgq hg Z80 P75;replace G1:=hgq hg G1 Z80;have Z87:=hzz hg Z80;clear hg hb;refine tkr (i:=0) rfl ?_;try simp only [lq0,lq7,lq1,lq2,lq3,lq4,lq5,lq6]
 refine tkr (i:=2) rfl ?_;try simp only [lq0,lq7,lq1,lq2,lq3,lq4,lq5,lq6]
 refine tkq (i:=3) (v:=?_) rfl ?_ ?_;rotate_left 1
 ·intro w_ hSw;obtain ⟨c2,_⟩:=cell_of hSw.1 (i:=2) rfl;go_simp<;>(with_reducible rfl)
 try simp only [lq0,lq7,lq1,lq2,lq3,lq4,lq5,lq6]
 refine tkr (i:=4) rfl ?_;try simp only [lq0,lq7,lq1,lq2,lq3,lq4,lq5,lq6]
 refine tkq (i:=5) (v:=?_) rfl ?_ ?_;rotate_left 1
 ·intro w_ hSw;obtain ⟨d2,_⟩:=cell_of hSw.2 (i:=2) rfl;go_simp<;>(with_reducible rfl)
 try simp only [lq0,lq7,lq1,lq2,lq3,lq4,lq5,lq6]
 refine wpAnyT_ready (rs:=[1]) (by kernel_rfl) (by simp) ?_;refine AllReadyT.cons rfl (fun K hK=>?_) AllReadyT.nil;have PC:=qh fun W (h:Par W g r81 V d)=>plain_any h R74.out
 go_simp;go_at_call 158
 refine (PC.out _ P75.out).mono ?_;rintro e w15 hgv;rcases hp:plainP r81 with ⟨a1,r8⟩|⟨n9,t9⟩
 rotate_left
 ·rw [hp] at hgv
  obtain ⟨rfl,hg⟩:=hgv;have hq:=HR73.out;rw [hp] at hq;go_wp2;exact ⟨rfl,Gv.badOf hq.symm (gr_trans G1.out hg)⟩
 rw [hp] at hgv;obtain ⟨⟨v9,rfl,hG⟩,hP9,hr9,hg⟩:=hgv;have hq:=HR73.out;rw [hp] at hq;try rw [bind_okE] at hq
 have HR88:=qh hq;clear hq HR73;have P89:=qh hP9;have R90:=qh hr9;replace X4:=hbq hg Z87 X4;replace X31:=hbq hg Z87 X31;replace X55:=hbq hg Z87 X55;clear P75;replace G1:=gtr G1 hg;have Z95:=hzz hg Z87;clear hg hP9 hr9 R74;obtain rfl:=hG;go_wp2_with fail
 refine hK.out _ _ ⟨X31.out,X55.out⟩ (fun hHeld=>?_);clear hK K;try simp only [lq0,lq7,lq1,lq2,lq3,lq4,lq5,lq6]
 refine tkr (i:=6) rfl ?_;try simp only [lq0,lq7,lq1,lq2,lq3,lq4,lq5,lq6]
 refine wpAnyT_ready (rs:=[7]) (by kernel_rfl) (by simp) ?_;refine AllReadyT.cons rfl (fun K hK=>?_) AllReadyT.nil;refine t_store X4.out 60 2 37 rfl rfl rfl (vC ⟨[],a1,0,true,lo.n,hi.n,0,0⟩) rfl rfl rfl (by kernel_rfl) (vC_one _) ?_;intro w16 hx hg hs;have X96:=qh hx;have Z97:=qh (And.intro hs Z95.out);clear hx hs X4;replace X31:=hbq hg Z95 X31;replace X55:=hbq hg Z95 X55;replace P89:=pgq hg Z95 P89;replace G1:=hgq hg G1 Z95;have Z102:=hzz hg Z97;clear hg;refine hK.out _ _ ⟨X31.out,X55.out⟩ (fun hHeld=>?_);clear hK K;try simp only [lq0,lq7,lq1,lq2,lq3,lq4,lq5,lq6]
 refine wpAnyT_done (by kernel_rfl) ?_ _;go_wp2;refine bodyPost_ret (k.results_cell rfl rfl (run_loadVar_mid _ w.heap.size 0 60 _ _ X96.out.range rfl rfl (by kernel_rfl))) rfl ?_;exact Gv.okOf HR88.out.symm rfl P89.out R90.out G1.out
theorem kind_any (hP:Par w g r V d) (hr:RowOk r):Calls Tryz.prog 140 #[.pointer (some ⟨g,0,none⟩)] w (Gv g V d w GotT (typeP r)):=by
 obtain ⟨R,hR⟩:∃ R:Res (Int×Bool×Int×Int),(typeP r)=R:=⟨_,rfl⟩;rw [hR];have HR:=qh hR;clear hR;have P1:=qh hP;have G1:=qh (gr_refl w (some g));have R1:=qh hr;have Z1:=qh (show g<w.heap.size from hP.lt);clear hP hr;go_enter Tryz.func140,Tryz.ntmps140
 go_upto_region 1 with (fail)
 obtain ⟨hb,hx,hz⟩:=znew w #[.string ⟨#[]⟩,.int .i64 0,.int .i64 0,.bool false,.int .i64 0,.int .i64 0,.int .i64 0,.int .i64 0] 60;generalize w.alloc (.cells #[.string ⟨#[]⟩,.int .i64 0,.int .i64 0,.bool false,.int .i64 0,.int .i64 0,.int .i64 0,.int .i64 0] 60)=w4 at *;have hg:=gr_of (row:=some w.heap.size) hb;have Z2:=qh (And.intro hz Z1.out);have X3:=qh hx;clear hb hx hz;replace P1:=pgq hg Z1 P1;replace G1:=hgq hg G1 Z1;have Z6:=hzz hg Z2;clear hg;by_cases h0:txt r=[65,82,82,65,89]
 ·skip
  have hq:=HR.out;rw [type_array h0] at hq;have HR7:=qh hq;clear hq HR;have AC:=qh fun W (h:Par W g r V d)=>array_any h R1.out h0
  rw [HR7.out] at AC;have HA:=qh (head_any P1.out R1.out);unfold sv at HA;have q0:((⟨(headS (tr.hd (r))).toArray⟩:ByteArray).toList==[65,82,82,65,89])=true:=by rw [ByteArray.toList_eq];exact beq_iff_eq.2 (hyq R1 h0)
  generalize (⟨(headS (tr.hd (r))).toArray⟩:ByteArray)=XH at *;go_wp2_with (go_at_call 72;fail)
  refine (HA.out).mono ?_;rintro e w5 ⟨rfl,hb⟩;have hg:=gr_of (row:=some w4.heap.size) hb;have X8:=hbq hg Z6 X3;clear X3;have P9:=pgq hg Z6 P1;clear P1;have G10:=hgq hg G1 Z6;clear G1;have Z11:=hzz hg Z6;clear hg hb HA HR7;go_wp2_with (go_at_call 156;fail)
  refine (AC.out _ P9.out).mono ?_;rintro e w6 hgv;rcases R with ⟨a1,r1⟩|⟨n9,t9⟩
  rotate_left
  ·skip
   obtain ⟨rfl,hg⟩:=hgv;go_wp2;exact ⟨rfl,Gv.badOf rfl (gr_trans G10.out hg)⟩
  obtain ⟨⟨v9,rfl,hG⟩,hP9,hr9,hg⟩:=hgv;have P12:=qh hP9;have R13:=qh hr9;have X14:=hbq hg Z11 X8;clear X8 P9;have G15:=gtr G10 hg;clear G10;have Z16:=hzz hg Z11;clear hg hP9 hr9 R1;obtain rfl:=hG;go_wp2_with ((with_reducible refine m_store X14.out 60 2 8 ?_ ?_ ?_ (vC ⟨[],a1.1,0,a1.2.1,a1.2.2.1,a1.2.2.2,0,0⟩) ?_ ?_ ?_ ?_ (vC_one _) ?_);rfl;rfl;rfl;rfl;rfl;rfl;kernel_rfl;intro w7 hx hg hs)
  have X17:=qh hx;have Z18:=qh (And.intro hs Z16.out);clear hx hs X14;replace P12:=pgq hg Z16 P12;replace G15:=hgq hg G15 Z16;have Z21:=hzz hg Z18;clear hg;refine bodyPost_ret (k.results_cell rfl rfl (run_loadVar_mid _ w.heap.size 0 60 _ _ X17.out.range rfl rfl (by kernel_rfl))) rfl ?_;exact Gv.okOf rfl rfl P12.out R13.out G15.out
 by_cases h1:(tr.hd r).kind=1
 ·skip
  have hq:=HR.out;rw [type_block h1] at hq;have HR7:=qh hq;clear hq HR;have hh:=((headS_kind R1.out).1).2 h1;have AC:=qh fun W (h:Par W g r V d)=>blockKind_any h R1.out
  have HA:=qh (head_any P1.out R1.out);unfold sv at HA;have q0:((⟨(headS (tr.hd (r))).toArray⟩:ByteArray).toList==[65,82,82,65,89])=false:=by rw [ByteArray.toList_eq];exact (by rw [hh];rfl)
  have q1:((⟨(headS (tr.hd (r))).toArray⟩:ByteArray).toList==[110,97,109,101])=true:=by rw [ByteArray.toList_eq];exact (by rw [hh];rfl)
  generalize (⟨(headS (tr.hd (r))).toArray⟩:ByteArray)=XH at *;go_wp2_with (go_at_call 72;fail)
  refine (HA.out).mono ?_;rintro e w5 ⟨rfl,hb⟩;have hg:=gr_of (row:=some w4.heap.size) hb;have X8:=hbq hg Z6 X3;clear X3;have P9:=pgq hg Z6 P1;clear P1;have G10:=hgq hg G1 Z6;clear G1;have Z11:=hzz hg Z6;clear hg hb HA hh;go_wp2_with (go_at_call 157;fail)
  refine (AC.out _ P9.out).mono ?_;rintro e w6 hgv;rcases hp:blockP r with ⟨a1,r1⟩|⟨n9,t9⟩
  rotate_left
  ·rw [hp] at hgv
   obtain ⟨rfl,hg⟩:=hgv;have hq:=HR7.out;rw [hp] at hq;go_wp2;exact ⟨rfl,Gv.badOf hq.symm (gr_trans G10.out hg)⟩
  rw [hp] at hgv;obtain ⟨⟨v9,rfl,hG⟩,hP9,hr9,hg⟩:=hgv;have hq:=HR7.out;rw [hp] at hq;try rw [bind_okE] at hq
  have HR12:=qh hq;clear hq HR7;have P13:=qh hP9;have R14:=qh hr9;have X15:=hbq hg Z11 X8;clear X8 P9;have G16:=gtr G10 hg;clear G10;have Z17:=hzz hg Z11;clear hg hP9 hr9 R1;obtain rfl:=hG;go_wp2_with ((with_reducible refine m_store X15.out 60 2 13 ?_ ?_ ?_ (vC ⟨[],a1,0,false,0,0,0,0⟩) ?_ ?_ ?_ ?_ (vC_one _) ?_);rfl;rfl;rfl;rfl;rfl;rfl;kernel_rfl;intro w7 hx hg hs)
  have X18:=qh hx;have Z19:=qh (And.intro hs Z17.out);clear hx hs X15;have P20:=pgq hg Z17 P13;clear P13;have G21:=hgq hg G16 Z17;clear G16;have Z22:=hzz hg Z19;clear hg;refine bodyPost_ret (k.results_cell rfl rfl (run_loadVar_mid _ w.heap.size 0 60 _ _ X18.out.range rfl rfl (by kernel_rfl))) rfl ?_;exact Gv.okOf HR12.out.symm rfl P20.out R14.out G21.out
 have hq:=HR.out;rw [type_plain h0 h1] at hq;have HR7:=qh hq;clear hq HR;have AC:=qh fun W (h:Par W g r V d)=>plain_any h R1.out
 have HA:=qh (head_any P1.out R1.out);unfold sv at HA;have q0:((⟨(headS (tr.hd (r))).toArray⟩:ByteArray).toList==[65,82,82,65,89])=false:=by rw [ByteArray.toList_eq];exact beq_eq_false_iff_ne.2 (hnq R1 h0)
 have q1:((⟨(headS (tr.hd (r))).toArray⟩:ByteArray).toList==[110,97,109,101])=false:=by rw [ByteArray.toList_eq];exact beq_eq_false_iff_ne.2 (mt ((headS_kind R1.out).1).1 h1)
 generalize (⟨(headS (tr.hd (r))).toArray⟩:ByteArray)=XH at *;go_wp2_with (go_at_call 72;fail)
 refine (HA.out).mono ?_;rintro e w5 ⟨rfl,hb⟩;have hg:=gr_of (row:=some w4.heap.size) hb;have X8:=hbq hg Z6 X3;clear X3;have P9:=pgq hg Z6 P1;clear P1;have G10:=hgq hg G1 Z6;clear G1;have Z11:=hzz hg Z6;clear hg hb HA;go_wp2_with (go_at_call 158;fail)
 refine (AC.out _ P9.out).mono ?_;rintro e w6 hgv;rcases hp:plainP r with ⟨a1,r1⟩|⟨n9,t9⟩
 rotate_left
 ·rw [hp] at hgv
  obtain ⟨rfl,hg⟩:=hgv;have hq:=HR7.out;rw [hp] at hq;go_wp2;exact ⟨rfl,Gv.badOf hq.symm (gr_trans G10.out hg)⟩
 rw [hp] at hgv;obtain ⟨⟨v9,rfl,hG⟩,hP9,hr9,hg⟩:=hgv;have hq:=HR7.out;rw [hp] at hq;try rw [bind_okE] at hq
 have HR12:=qh hq;clear hq HR7;have P13:=qh hP9;have R14:=qh hr9;have X15:=hbq hg Z11 X8;clear X8 P9;have G16:=gtr G10 hg;clear G10;have Z17:=hzz hg Z11;clear hg hP9 hr9 R1;obtain rfl:=hG;go_wp2_with ((with_reducible refine m_store X15.out 60 2 16 ?_ ?_ ?_ (vC ⟨[],a1,0,false,0,0,0,0⟩) ?_ ?_ ?_ ?_ (vC_one _) ?_);rfl;rfl;rfl;rfl;rfl;rfl;kernel_rfl;intro w7 hx hg hs)
 have X18:=qh hx;have Z19:=qh (And.intro hs Z17.out);clear hx hs X15;have P20:=pgq hg Z17 P13;clear P13;have G21:=hgq hg G16 Z17;clear G16;have Z22:=hzz hg Z19;clear hg;refine bodyPost_ret (k.results_cell rfl rfl (run_loadVar_mid _ w.heap.size 0 60 _ _ X18.out.range rfl rfl (by kernel_rfl))) rfl ?_;exact Gv.okOf HR12.out.symm rfl P20.out R14.out G21.out
end
structure Fr (g:Nat) (V:Value) (w w':World):Prop where
 os:w'.os=w.os
 tape:w'.tape=w.tape
 output:w'.output=w.output
 size:w.heap.size≤w'.heap.size
 block:∀ q,q<w.heap.size→q≠g→V.ownBlock≠some q→w'.heap[q]?=w.heap[q]?
theorem Fr.refl (g:Nat) (V:Value) (w:World):Fr g V w w:=⟨rfl,rfl,rfl,Nat.le_refl _,fun _ _ _ _=>rfl⟩
theorem Fr.step {g:Nat} {V:Value} {w c c':World} {q:Nat} (h:Fr g V w c) (hg:c.grownBy c' (some q)) (hq:q=g∨V.ownBlock=some q∨w.heap.size≤q):Fr g V w c':=
 ⟨hg.os.trans h.os,hg.tape.trans h.tape,hg.output.trans h.output,Nat.le_trans h.size hg.size,fun k hk h1 h2=>(hg.block k (Nat.lt_of_lt_of_le hk h.size) (fun e=>by
  injection e with e
  subst e;rcases hq with hq|hq|hq
  ·exact h1 hq
  ·exact h2 hq
  ·omega)).trans (h.block k hk h1 h2)⟩
def LinkV (V:Value) (w:World) (V1:Value):Prop:=∀ q,V1.ownBlock=some q→V.ownBlock=some q∨w.heap.size≤q
theorem LinkV.refl (V:Value) (w:World):LinkV V w V:=fun _ e=>.inl e
theorem LinkV.trans {V V1 V2:Value} {w c:World} (h:LinkV V w V1) (hs:w.heap.size≤c.heap.size) (h2:LinkV V1 c V2):LinkV V w V2:=fun q e=>(h2 q e).elim (fun e=>h q e) (fun h=>.inr (Nat.le_trans hs h))
theorem Fr.thenV {g:Nat} {V V1:Value} {w c c':World} (h:Fr g V w c) (h2:Fr g V1 c c') (hl:LinkV V w V1):Fr g V w c':=
 ⟨h2.os.trans h.os,h2.tape.trans h.tape,h2.output.trans h.output,Nat.le_trans h.size h2.size,fun k hk a1 a2=>(h2.block k (Nat.lt_of_lt_of_le hk h.size) a1 (fun e=>(hl k e).elim a2 (fun h=>by omega))).trans (h.block k hk a1 a2)⟩
theorem Fr.grown {g:Nat} {w c:World} (h:Fr g (.slice none 0 0) w c):w.grownBy c (some g):=⟨h.os,h.tape,h.output,h.size,fun k hk hne=>h.block k hk (fun e=>hne (by rw [e])) (by simp [Value.ownBlock])⟩
def GvV (g d:Nat) (V:Value) (w:World) (p:Res (List Va)) (e:Ending) (w':World):Prop:=match p with
 | .ok vs r=>e=.returned (.tuple #[])∧RowOk r∧Fr g V w w'∧∃ V',LinkV V w V'∧Par w' g r V' d∧Ow vC 8 60 w' (g+1) V' vs
 | .bad n t=>e=.panicked [{v:=mis n t,recovered:=false}]∧Fr g V w w'
theorem GvV.badOf {g d:Nat} {V:Value} {w w':World} {p:Res (List Va)} {n:Int} {t:Tk} (hp:p=.bad n t) (hb:Fr g V w w'):GvV g d V w p (.panicked [{v:=mis n t,recovered:=false}]) w':=by
 subst hp;exact ⟨rfl,hb⟩
theorem GvV.okOf {g d:Nat} {V:Value} {w w':World} {p:Res (List Va)} {vs:List Va} {r:Sg} {V':Value} (hp:p=.ok vs r) (hr:RowOk r) (hb:Fr g V w w') (hl:LinkV V w V') (hP:Par w' g r V' d) (hO:Ow vC 8 60 w' (g+1) V' vs):GvV g d V w p (.returned (.tuple #[])) w':=by
 subst hp;exact ⟨rfl,hr,hb,V',hl,hP,hO⟩
def newV (sec:Int) (t:Tk):Va:=⟨t.text,0,sec,false,0,0,0,t.line⟩
def tokP (m:Nat) (r:Sg):Res Tk:=if 64<m+1 then .bad 13 (hd r) else want 1 r
theorem vars_slice:Tryz.prog.underlying 22=some (.slice 60):=by kernel_rfl
theorem var_info:(Tryz.prog.info? 60).map (fun i=>(i.zero,i.size,i.bytes))=some (some (.agg #[.string ⟨#[]⟩,.int .i64 0,.int .i64 0,.bool false,.int .i64 0,.int .i64 0,.int .i64 0,.int .i64 0]),8,72):=by kernel_rfl
theorem bs_V (v:Va) (w:World):(Instr.buildSlice 22 1 #[(0,.agg (vC v).toArray)]).run Tryz.prog w=.ok (.slice (some ⟨w.heap.size,0,none⟩) 1 1) (w.alloc (.cells (vC v).toArray 60)):=by kernel_rfl
section
variable {r:Sg} {V:Value} {d g:Nat} {w:World}
theorem variable_any (hP:Par w g r V d) (hr:RowOk r) {vs:List Va} (hO:Ow vC 8 60 w (g+1) V vs) (hv:vs.length≤64) (sec:Int) :
  Calls Tryz.prog 113 #[.pointer (some ⟨g,0,none⟩),.int .i64 sec] w (GvV g d V w ((tokP vs.length r).bind fun t r'=>.ok (vs++[newV sec t]) r')):=by
 obtain ⟨R,hR⟩:∃ R:Res (List Va),((tokP vs.length r).bind fun t r'=>.ok (vs++[newV sec t]) r')=R:=⟨_,rfl⟩;rw [hR];have HR:=qh hR;clear hR;obtain ⟨A9,cap9,rfl,hrd⟩:=hO.form vC_len;have hnl:(vs.length:Int)≤9223372036854775807:=by omega
 have O1:=qh hO;have OHD:=qh hO;have HV:=qh hv;clear hO hrd hv;have P1:=qh hP;have G1:=qh (Fr.refl g (.slice A9 vs.length cap9) w);have R1:=qh hr;have Z1:=qh (show g<w.heap.size from hP.lt);clear hP hr;have hq:=HR.out;unfold tokP at hq;have HR2:=qh hq;clear hq HR;obtain ⟨A1,c1,hB1,hR1⟩:=P1.out;have ⟨a0,k0,a1,k1,a2,k2,_⟩:=hB1;clear hB1 hR1;go_enter Tryz.func113,Tryz.ntmps113
 by_cases h64:64<vs.length+1
 ·skip
  have hq:=HR2.out;rw [if_pos h64] at hq;have HR3:=qh hq;clear hq HR2;have q64:((vs.length:Int)==64)=true:=by rw [beq_iff_eq];have:=HV.out;omega
  go_wp2_with (go_at_call 74;fail)
  refine (next_any P1.out R1.out).mono ?_;rintro e w4 ⟨rfl,hb⟩;have hg:=gr_of (row:=some w.heap.size) hb;replace O1:=oqq hg Z1 O1;replace P1:=pgq hg Z1 P1;have G6:=qh (G1.out.step hg (.inr (.inr (qq Z1))));clear G1;have Z7:=hzz hg Z1;clear hg hb;go_wp2_with (go_at_call 73;fail)
  refine (fail_any 13 (tr.hd r) _).mono ?_;rintro e wz ⟨rfl,hb⟩;go_wp2;exact ⟨rfl,GvV.badOf HR3.out.symm (G6.out.step (gr_of (row:=some w4.heap.size) hb) (.inr (.inr (qq Z7))))⟩
 have hq:=HR2.out;rw [if_neg h64] at hq;have HR3:=qh hq;clear hq HR2;have q64:((vs.length:Int)==64)=false:=by rw [beq_eq_false_iff_ne];omega
 go_upto_region 2 with (fail)
 clear a0 k0 a1 k1 a2 k2 q64;by_cases hs4:(tr.hd (r)).kind=1
 rotate_left
 ·have hq:=HR3.out
  rw [want_badE hs4] at hq;go_wp2_with (go_at_call 47;fail)
  refine (need_no P1.out R1.out (mt (headS_kind R1.out).1.1 hs4)).mono ?_;rintro e w4 ⟨rfl,hb⟩;go_wp2;exact ⟨rfl,GvV.badOf hq.symm (G1.out.step (gr_of (row:=some w.heap.size) hb) (.inr (.inr (qq Z1))))⟩
 have hq:=HR3.out;rw [want_okE hs4,bind_okE] at hq;have HR5:=qh hq;clear hq HR3;have R6:=qh (R1.out.drop (by rw [hs4];decide));go_wp2_with (go_at_call 47;fail)
 refine (need_yes P1.out R1.out ((headS_kind R1.out).1.2 hs4)).mono ?_;rintro e w4 ⟨rfl,hp,hg⟩;have P7:=qh hp;replace O1:=oqq hg Z1 O1;clear P1;have G9:=qh (G1.out.step hg (.inl rfl));clear G1;have Z10:=hzz hg Z1;clear hg hp R1;generalize ((r).drop 1)=r11 at *;go_upto_region 3 with ((with_reducible refine m_new 34 4 15 ?_ ?_ ?_ (tC (tr.hd (r))) ?_ ?_ ?_ ?_ (tC_one _) ?_);rfl;rfl;rfl;rfl;rfl;rfl;kernel_rfl;intro w5 hx hb hz)
 have hg:=gr_of (row:=some w4.heap.size) hb;have Z12:=qh (And.intro hz Z10.out);have X13:=qh hx;clear hb hx hz;replace O1:=oqq hg Z10 O1;replace P7:=pgq hg Z10 P7;have G16:=qh (G9.out.step hg (.inr (.inr (qq Z10))));clear G9;have Z17:=hzz hg Z12;clear hg;generalize tr.hd (r)=t at *;obtain ⟨A2,c2,hB2,hR2⟩:=P7.out;have XG:=qh hB2;have RG:=qh hR2;clear hB2 hR2 P7;refine wp_region_T (by kernel_rfl) (fun w'=>Box w' (g) 0 ([.slice A2 r11.length c2,.slice A9 vs.length cap9,.int .i64 d])∧Box w' (w4.heap.size) 0 (tC t)) [15] ⟨box_drew XG.out,box_drew X13.out⟩ (fun hHeld=>?_);have hb:=(Below.refl w5.heap.size w5).drew;generalize w5.drew=w6 at *;have hg:=gr_of (row:=some w5.heap.size) hb;replace X13:=hbq hg Z17 X13;replace XG:=hbq hg Z17 XG;replace O1:=oqq hg Z17 O1;have RG21:=qh (rd_gr RG.out hg (qq Z17) (qq Z17));clear RG;have G22:=qh (G16.out.step hg (.inr (.inr (qq Z17))));clear G16;have Z23:=hzz hg Z17;clear hg hb;refine tkr (i:=0) rfl ?_;try simp only [lq0,lq7,lq1,lq2,lq3,lq4,lq5,lq6]
 refine tkr (i:=1) rfl ?_;try simp only [lq0,lq7,lq1,lq2,lq3,lq4,lq5,lq6]
 refine tkr (i:=2) rfl ?_;try simp only [lq0,lq7,lq1,lq2,lq3,lq4,lq5,lq6]
 refine tkr (i:=3) rfl ?_;try simp only [lq0,lq7,lq1,lq2,lq3,lq4,lq5,lq6]
 refine tkq (i:=4) (v:=?_) rfl ?_ ?_;rotate_left 1
 ·intro w_ hSw;obtain ⟨_,_,g1,_⟩:=hSw.1;go_simp<;>(with_reducible rfl)
 try simp only [lq0,lq7,lq1,lq2,lq3,lq4,lq5,lq6]
 refine tkr (i:=5) rfl ?_;try simp only [lq0,lq7,lq1,lq2,lq3,lq4,lq5,lq6]
 refine tkq (i:=6) (v:=?_) rfl ?_ ?_;rotate_left 1
 ·intro w_ hSw;obtain ⟨c1,_⟩:=cell_of hSw.2 (i:=1) rfl;go_simp<;>(with_reducible rfl)
 try simp only [lq0,lq7,lq1,lq2,lq3,lq4,lq5,lq6]
 refine tkr (i:=7) rfl ?_;try simp only [lq0,lq7,lq1,lq2,lq3,lq4,lq5,lq6]
 refine tkr (i:=8) rfl ?_;try simp only [lq0,lq7,lq1,lq2,lq3,lq4,lq5,lq6]
 refine tkq (i:=9) (v:=?_) rfl ?_ ?_;rotate_left 1
 ·intro w_ hSw;obtain ⟨c3,_⟩:=cell_of hSw.2 (i:=3) rfl;go_simp<;>(with_reducible rfl)
 try simp only [lq0,lq7,lq1,lq2,lq3,lq4,lq5,lq6]
 refine tkr (i:=10) rfl ?_;try simp only [lq0,lq7,lq1,lq2,lq3,lq4,lq5,lq6]
 refine wpAnyT_ready (rs:=[11]) (by kernel_rfl) (by simp) ?_;refine AllReadyT.cons rfl (fun K hK=>?_) AllReadyT.nil;refine t_slice1 (enc:=vC) (z:=8) (newV sec t) 22 60 26 (.agg (vC (newV sec t)).toArray) (vC (newV sec t)).toArray rfl rfl rfl (bs_V (newV sec t)) rfl ?_;intro w7 hrb hb1 hz1;have HRB:=qh hrb;have HB1:=qh hb1;have HZ1:=qh hz1;clear hrb hb1 hz1;have hg:=gr_of (row:=some w6.heap.size) HB1.out;have Z24:=qh (And.intro HZ1.out Z23.out);have E25:=HRB;clear HZ1 HRB;replace X13:=hbq hg Z23 X13;replace XG:=hbq hg Z23 XG;replace O1:=oqq hg Z23 O1;have RG29:=qh (rd_gr RG21.out hg (qq Z23) (qq Z23));clear RG21;have G30:=qh (G22.out.step hg (.inr (.inr (qq Z23))));clear G22;have Z31:=hzz hg Z24;clear hg HB1;refine hK.out _ _ ⟨XG.out,X13.out⟩ (fun hHeld=>?_);clear hK K;try simp only [lq0,lq7,lq1,lq2,lq3,lq4,lq5,lq6]
 have LM:=qh (show vs.length+[newV sec t].length≤60000 by have:=HV.out;simp only [List.length_cons,List.length_nil];omega);refine wpAnyT_ready (rs:=[12]) (by kernel_rfl) (by simp) ?_;refine AllReadyT.cons rfl (fun K hK=>?_) AllReadyT.nil;have Z33:=qh (And.intro (show (g+1)≤w7.heap.size from (qq Z31)) Z31.out);refine step_append_row vC_len (by decide) vC_one vars_slice var_info rfl (by decide) _ rfl (.tmp 20) (.tmp 27) rfl (g+1) (.slice A9 vs.length cap9) vs rfl O1.out (w6.heap.size+1) (some ⟨w6.heap.size,0,none⟩) 1 1 [newV sec t] rfl (RB.toAt (fun b hb=>hb.2) E25.out) LM.out Z33.out.1 ?_;intro v8 w8 hown hgA hat;have HOWN:=qh hown;have HGA:=qh hgA;have HAT:=qh hat;clear hown hgA hat;obtain ⟨S34,hsv⟩:=Ow.sl vC_len HOWN.out;subst hsv;obtain ⟨q9,hq1,hq2,hg⟩:=grow_q O1.out (qq Z33) HGA.out;have HQ2:=qh hq2;have Z35:=qh (And.intro hq1 Z33.out);have Z36:=qh (And.intro (show q9<w.heap.size∨w7.heap.size≤q9 from hq2.imp (fun e=>(Ow.lt OHD.out e).2) id) Z35.out);clear hq1 hq2;have HOB37:=qh (show ∀ q0,(Sl.v S34).ownBlock=some q0→q0<w.heap.size∨w7.heap.size≤q0 from fun q0 e0=>HAT.out.elim (fun h=>.inl (Ow.lt OHD.out (h.symm.trans e0)).2) (fun h=>.inr (by rw [h] at e0;injection e0 with e0;omega)));have HLK38:=qh (show ∀ q0,(Sl.v S34).ownBlock=some q0→((.slice A9 vs.length cap9):Value).ownBlock=some q0∨w.heap.size≤q0 from fun q0 e0=>HAT.out.elim (fun h=>.inl (h.symm.trans e0)) (fun h=>.inr (by rw [h] at e0;injection e0 with e0;have z:=Z36.out;omega)));replace X13:=hbq hg Z36 X13;replace XG:=hbq hg Z36 XG;replace E25:=hrq hg Z36 E25;have RG42:=qh (rd_gr RG29.out hg (qq Z36) (qq Z36));clear RG29;have G43:=qh (G30.out.step hg (.inr (HQ2.out.imp id (fun h9=>(qq Z36)))));clear G30;have Z44:=hzz hg Z36;have O45:=HOWN;clear hg HOWN HGA HQ2 HAT O1;refine hK.out _ _ ⟨XG.out,X13.out⟩ (fun hHeld=>?_);clear hK K;try simp only [lq0,lq7,lq1,lq2,lq3,lq4,lq5,lq6]
 refine tkr (i:=13) rfl ?_;try simp only [lq0,lq7,lq1,lq2,lq3,lq4,lq5,lq6]
 refine tkr (i:=14) rfl ?_;try simp only [lq0,lq7,lq1,lq2,lq3,lq4,lq5,lq6]
 refine wpAnyT_ready (rs:=[15]) (by kernel_rfl) (by simp) ?_;refine AllReadyT.spoilt rfl (by kernel_rfl) (fun K hK=>?_) AllReadyT.nil;refine t_set1 (j:=1) XG.out (show 1<3 by decide) 22 30 28 rfl rfl rfl (Sl.v S34) rfl rfl (by first|rfl|(cases S34;rfl)) (by kernel_rfl) ?_;intro w9 hx hg hs;have hx:Box w9 g 0 [.slice A2 r11.length c2,Sl.v S34,.int .i64 d]:=hx;have X46:=qh hx;have Z47:=qh (And.intro hs Z44.out);clear hx hs XG;replace X13:=hbq hg Z44 X13;replace E25:=hrq hg Z44 E25;replace O45:=oqq hg Z44 O45;have RG51:=qh (rd_gr RG42.out hg (qq Z44) (qq Z44));clear RG42;have G52:=qh (G43.out.step hg (.inl rfl));clear G43;have Z53:=hzz hg Z47;clear hg;refine hK.out _ _ ?_;clear hK K;try simp only [lq0,lq7,lq1,lq2,lq3,lq4,lq5,lq6]
 refine wpAnyT_done (by kernel_rfl) ?_ _;go_wp2;refine end0 rfl rfl ?_;exact GvV.okOf HR5.out.symm R6.out G52.out HLK38.out ⟨A2,c2,X46.out,RG51.out⟩ O45.out
end
theorem flat_set {α:Type} {enc:α→List Value} {z:Nat} (hz:∀ x,(enc x).length=z):∀ (L:List α) (i f:Nat) (x x':α) (u:Value),L[i]?=some x→f<z→enc x'=(enc x).set f u→(L.set i x').flatMap enc=(L.flatMap enc).set (i*z+f) u
 | [],_,_,_,_,_,h,_,_=>by simp at h
 | y::L,0,f,x,x',u,h,hf,he=>by
  obtain rfl:y=x:=by simpa using h
  rw [List.set_cons_zero,List.flatMap_cons,List.flatMap_cons,he,Nat.zero_mul,Nat.zero_add,List.set_append_left _ _ (by rw [hz];exact hf)]
 | y::L,i+1,f,x,x',u,h,hf,he=>by
  rw [List.set_cons_succ,List.flatMap_cons,List.flatMap_cons,flat_set hz L i f x x' u (by simpa using h) hf he,List.set_append_right _ _ (by rw [hz,Nat.succ_mul];omega),hz];congr 2
  rw [Nat.succ_mul];omega
theorem ow_set {α:Type} {enc:α→List Value} {z:Nat} (hz:∀ x,(enc x).length=z) {t:TypeId} {w:World} {base b n cap:Nat} {L:List α} (h:Ow enc z t w base (.slice (some ⟨b,0,none⟩) n cap) L) {i f:Nat} {x x':α} {u:Value} (hi:L[i]?=some x) (hf:f<z) (he:enc x'=(enc x).set f u) :
  Ow enc z t (w.setCell ⟨b,i*z+f,none⟩ u) base (.slice (some ⟨b,0,none⟩) n cap) (L.set i x'):=by
 have hfl:=flat_set hz L i f x x' u hi hf he;have hil:=(List.getElem?_eq_some_iff.1 hi).1;have hlen:=flat_len enc z hz L;unfold Ow at h ⊢;rw [hfl,List.length_set];obtain ⟨h1,h2⟩:=h;refine ⟨by rw [List.length_set];exact h1,?_⟩;rcases h2 with ⟨h2,_⟩|⟨g,cap',cur,h2,hb,hg,hle,hmax,hcs,htake⟩
 ·cases h2
 ·injection h2 with h2 h3 h4
  injection h2 with h2
  injection h2 with h2
  subst h2 h4;refine .inr ⟨b,cap,cur.setIfInBounds (i*z+f) u,by rw [h3],hb,?_,hle,hmax,by rw [Array.size_setIfInBounds];exact hcs,?_⟩
  ·unfold World.setCell
   simp only [Array.getElem?_modify];rw [hg];simp
  ·rw [Array.toList_setIfInBounds,←htake,List.take_set]
def updV (ty:Int×Bool×Int×Int) (init:Int) (v:Va):Va:={v with type:=ty.1,array:=ty.2.1,lo:=ty.2.2.1,hi:=ty.2.2.2,init:=init}
def typQ (r:Sg):Res ((Int×Bool×Int×Int)×Int):=(typeP r).bind fun ty r'=>
 (if txt r'=[58,61] then (valueP (r'.drop 1)).bind fun v r'=>
   if ty.2.1=true∨2<ty.1∨(v.1=true∧ty.1=1)∨(v.1=false∧ty.1=2) then .bad 1 (hd r) else .ok v.2 r'
  else .ok 0 r').bind fun init r'=>.ok (ty,init) r'
section
variable {P:Program} {ops:Array Oper} {op:Oper} {a:Act} {w:World} {K:Act→World→Prop} {Q:Exit→Act→World→Prop} {E:Prop}
theorem t_setrow {α:Type} {enc:α→List Value} {z:Nat} (hz:∀ x,(enc x).length=z) {t:TypeId} {base b n cap:Nat} {L:List α} (hO:Ow enc z t w base (.slice (some ⟨b,0,none⟩) n cap) L) (i f:Nat) {x:α} (x':α) (u:Value) (hi:L[i]?=some x) (hf:f<z) (he:enc x'=(enc x).set f u) (hfr:∀ j,w.frozen? ⟨b,j,none⟩=false)
  (T tt uu q:Nat) (hq:q=i*z+f) (ho:op.op=.store T (.tmp tt) (.tmp uu)) (hg:op.guard=none) (hd:op.dst=none) (hx:a.eval (.tmp tt)=.pointer (some ⟨b,q,none⟩)) (hy:a.eval (.tmp uu)=u) (h1:u.oneCell'=true) (hi1:(P.info? T).map (·.size)=some 1)
  (h:∀ w',Ow enc z t w' base (.slice (some ⟨b,0,none⟩) n cap) (L.set i x')→w.grownBy w' (some b)→w'.heap.size=w.heap.size→K a w'):if Region.wanted op (yielded ops a.tmps)=true then Oper.wp P op a w K Q else E:=by
 refine t_wanted hg ?_;subst hq;have hc:u.cells=#[u]:=by cases u<;>first|rfl|cases h1
 have hcell:w.cell? ⟨b,i*z+f,none⟩=(enc x)[f]?:=by
  obtain ⟨v,hv⟩:∃ v,(enc x)[f]?=some v:=⟨_,List.getElem?_eq_getElem (by rw [hz];exact hf)⟩;have:=World.ownsRow.cells (g:=b) hO rfl (i*z+f) v (by rw [flat_at enc z hz L i f x hi hf,hv]);rw [hv];have e:(Addr.add ⟨b,0,none⟩ (i*z+f))=⟨b,i*z+f,none⟩:=by
   unfold Addr.add;by_cases h:i*z+f=0<;>simp [h];intro h2 h3;omega
  rwa [e] at this
 obtain ⟨v0,hv0⟩:∃ v,(enc x)[f]?=some v:=⟨_,List.getElem?_eq_getElem (by rw [hz];exact hf)⟩;rw [hv0] at hcell;have hthere:w.there b (i*z+f) 1:=by
  intro j hj;have:j=0:=by omega
  subst this;exact ⟨by rw [Nat.add_zero,hcell];rfl,by rw [Nat.add_zero];exact hfr _⟩
 have hrun:=run_storeCells_cells (P:=P) b (i*z+f) [u] 0 w (fun j hj=>by simpa using (hthere j (by simpa using hj)).1) (fun j hj=>by simpa using (hthere j (by simpa using hj)).2) (fun x hx'=>by
  simp only [List.mem_cons,List.not_mem_nil,or_false] at hx';subst hx';exact h1)
 simp only [Nat.add_zero] at hrun;have hst:(storeVar T ⟨b,i*z+f,none⟩ u).run P w=.ok () (w.setCells b (i*z+f) [u]):=by
  cases hq:P.info? T with
  | none=>simp [hq] at hi1
  | some i=>
   have hs:i.size=1:=by simpa [hq] using hi1
   simp [storeVar,sizeOf,typeInfo,hq,hc,hs,hrun]
 unfold Oper.wp execOp;simp only [ho,hx,hy,Instr.storeAt,Instr.sureAddr,Sem.run_bind,Sem.run_pure,Result.andThen_ok,hst];change K (a.put op.dst undef) _
 rw [hd];exact h _ (ow_set hz hO hi hf he) (gr_set w b _ u) (set_size _ _ _)
end
theorem ow_free {α:Type} {enc:α→List Value} {z:Nat} {t:TypeId} {w:World} {base b n cap:Nat} {L:List α} (h:Ow enc z t w base (.slice (some ⟨b,0,none⟩) n cap) L) (j:Nat):w.frozen? ⟨b,j,none⟩=false:=by
 rcases h.2 with ⟨h2,_⟩|⟨g,cap',cur,h2,hb,hg,_⟩
 ·cases h2
 ·injection h2 with h2
  injection h2 with h2
  injection h2 with h2
  subst h2;unfold World.frozen?;rw [hg];simp
theorem type_pos {r r':Sg} {ty:Int×Bool×Int×Int} (h:typeP r=.ok ty r'):1≤ty.1:=by
 have hk:∀ s,kindOf s≠0→1≤kindOf s:=by
  intro s;unfold kindOf;split
  ·rename_i k hk
   have:=List.mem_of_find?_eq_some hk;unfold kinds at this;simp only [List.mem_cons,List.not_mem_nil,or_false] at this;rcases this with rfl|rfl|rfl|rfl|rfl|rfl|rfl|rfl|rfl|rfl|rfl|rfl|rfl|rfl|rfl|rfl|rfl|rfl|rfl|rfl|rfl<;>decide
  ·intro h;exact absurd rfl h
 have hs:∀ q,simpleT q≠0→1≤simpleT q:=by
  intro q;unfold simpleT;split
  ·decide
  ·split
   ·decide
   ·intro h;exact absurd rfl h
 unfold typeP at h;split at h
 ·rename_i h0
  cases h
  exact hs r h0
 ·split at h
  ·obtain ⟨_,r1,_,h⟩:=bind_ok h
   obtain ⟨lo,r2,_,h⟩:=bind_ok h;obtain ⟨_,r3,_,h⟩:=bind_ok h;obtain ⟨hi,r4,_,h⟩:=bind_ok h;split at h
   ·cases h
   ·obtain ⟨_,r5,_,h⟩:=bind_ok h
    obtain ⟨_,r6,_,h⟩:=bind_ok h;split at h
    ·rename_i h0
     cases h
     exact hs _ h0
    ·cases h
  ·obtain ⟨t,r1,_,h⟩:=bind_ok h
   split at h
   ·cases h
   ·rename_i h0
    cases h
    exact hk _ h0
section
variable {r:Sg} {V:Value} {d g:Nat} {w:World}
theorem typed_any {b N cap cap2:Nat} (hP:Par w g r (.slice (some ⟨b,0,none⟩) N cap) d) (hr:RowOk r) {vs ns:List Va} (hO:Ow vC 8 60 w (g+1) (.slice (some ⟨b,0,none⟩) N cap) (vs++ns)) (hlen:vs.length+ns.length≤64) :
  Calls Tryz.prog 114 #[.pointer (some ⟨g,0,none⟩),.slice (some ⟨b,vs.length*8,none⟩) ns.length cap2] w (GvV g d (.slice (some ⟨b,0,none⟩) N cap) w ((typQ r).bind fun x r'=>.ok (vs++ns.map (updV x.1 x.2)) r')):=by
 obtain ⟨R,hR⟩:∃ R:Res (List Va),((typQ r).bind fun x r'=>.ok (vs++ns.map (updV x.1 x.2)) r')=R:=⟨_,rfl⟩;rw [hR];have HR:=qh hR;clear hR;have O1:=qh hO;have HB:=qh (Ow.lt hO (q:=b) rfl);have OB:=qh (show (Value.slice (some ⟨b,0,none⟩) N cap).ownBlock=some b from rfl);have HLN:=qh hlen;clear hO hlen;have P1:=qh hP;have G1:=qh (Fr.refl g (.slice (some ⟨b,0,none⟩) N cap) w);have R1:=qh hr;have Z1:=qh (show g<w.heap.size from hP.lt);clear hP hr;have hq:=HR.out;unfold typQ at hq;simp only [bind_bind,bind_okE] at hq;have HR2:=qh hq;clear hq HR;have Z3:=qh (And.intro (show b<w.heap.size from HB.out.2) Z1.out);have Z4:=qh (And.intro (show g+1≤b from HB.out.1) Z3.out);go_enter Tryz.func114,Tryz.ntmps114
 go_wp2_with (go_at_call 74;fail)
 refine (next_any P1.out R1.out).mono ?_;rintro e w4 ⟨rfl,hb⟩;have hg:=gr_of (row:=some w.heap.size) hb;have O5:=qh (Ow.gr2 O1.out hg (by rw [OB.out];intro e0;injection e0 with e0;have z:=Z4.out;omega));clear O1;have P6:=pgq hg Z4 P1;clear P1;have G7:=qh (G1.out.step hg (.inr (.inr (qq Z4))));clear G1;have Z8:=hzz hg Z4;clear hg hb;go_upto_region 1 with ((with_reducible refine m_new 34 4 11 ?_ ?_ ?_ (tC (tr.hd r)) ?_ ?_ ?_ ?_ (tC_one _) ?_);rfl;rfl;rfl;rfl;rfl;rfl;kernel_rfl;intro w5 hx hb hz)
 have hg:=gr_of (row:=some w4.heap.size) hb;have Z9:=qh (And.intro hz Z8.out);have X10:=qh hx;clear hb hx hz;have O11:=qh (Ow.gr2 O5.out hg (by rw [OB.out];intro e0;injection e0 with e0;have z:=Z8.out;omega));clear O5;replace P6:=pgq hg Z8 P6;have G13:=qh (G7.out.step hg (.inr (.inr (qq Z8))));clear G7;have Z14:=hzz hg Z9;clear hg;have KC:=qh fun W (h:Par W g r (.slice (some ⟨b,0,none⟩) N cap) d)=>kind_any h R1.out
 go_wp2_with (go_at_call 140;fail)
 refine (KC.out _ P6.out).mono ?_;rintro e w6 hgv;rcases hp:typeP r with ⟨ty,r1⟩|⟨n9,t9⟩
 rotate_left
 ·rw [hp] at hgv
  obtain ⟨rfl,hg⟩:=hgv;have hq:=HR2.out;rw [hp] at hq;go_wp2;exact ⟨rfl,GvV.badOf hq.symm (G13.out.step hg (.inl rfl))⟩
 rw [hp] at hgv;obtain ⟨⟨v9,rfl,hG⟩,hP9,hr9,hg⟩:=hgv;have hq:=HR2.out;rw [hp] at hq;try rw [bind_okE] at hq
 have HR15:=qh hq;clear hq HR2;have P16:=qh hP9;have R17:=qh hr9;replace X10:=hbq hg Z14 X10;have O19:=qh (Ow.gr2 O11.out hg (by rw [OB.out];intro e0;injection e0 with e0;have z:=Z14.out;omega));clear O11 P6;have G20:=qh (G13.out.step hg (.inl rfl));clear G13;have Z21:=hzz hg Z14;clear hg hP9 hr9 R1;obtain rfl:=hG;have TP:=qh (type_pos hp);clear hp KC;go_upto_region 2 with ((with_reducible refine m_new 60 5 13 ?_ ?_ ?_ (vC ⟨[],ty.1,0,ty.2.1,ty.2.2.1,ty.2.2.2,0,0⟩) ?_ ?_ ?_ ?_ (vC_one _) ?_);rfl;rfl;rfl;rfl;rfl;rfl;kernel_rfl;intro w7 hx hb hz)
 have hg:=gr_of (row:=some w6.heap.size) hb;have Z22:=qh (And.intro hz Z21.out);have X23:=qh hx;clear hb hx hz;replace X10:=hbq hg Z21 X10;have O25:=qh (Ow.gr2 O19.out hg (by rw [OB.out];intro e0;injection e0 with e0;have z:=Z21.out;omega));clear O19;replace P16:=pgq hg Z21 P16;have G27:=qh (G20.out.step hg (.inr (.inr (qq Z21))));clear G20;have Z28:=hzz hg Z22;clear hg;obtain ⟨ty1,ta,tlo,thi⟩:=ty;by_cases hw:txt r1=[58,61]
 ·skip
  have hq:=HR15.out;rw [if_pos hw] at hq;simp only [bind_bind] at hq;have HR29:=qh hq;clear hq HR15;have R30:=qh (R17.out.drop (txt_kind hw (by decide)));go_wp2_with (go_at_call 76;fail)
  refine (take_yes P16.out R17.out (hyq R17 hw) (txt_kind hw (by decide))).mono ?_;rintro e w8 ⟨rfl,hp,hg⟩;have P31:=qh hp;replace X10:=hbq hg Z28 X10;replace X23:=hbq hg Z28 X23;have O34:=qh (Ow.gr2 O25.out hg (by rw [OB.out];intro e0;injection e0 with e0;have z:=Z28.out;omega));clear O25 P16;have G35:=qh (G27.out.step hg (.inl rfl));clear G27;have Z36:=hzz hg Z28;clear hg hp R17;generalize ((r1).drop 1)=r37 at *;have VC:=qh fun W (h:Par W g r37 (.slice (some ⟨b,0,none⟩) N cap) d)=>value_any h R30.out
  go_wp2_with (go_at_call 141;fail)
  refine (VC.out _ P31.out).mono ?_;rintro e w9 hgv;rcases hp:valueP r37 with ⟨v1,r2⟩|⟨n9,t9⟩
  rotate_left
  ·rw [hp] at hgv
   obtain ⟨rfl,hg⟩:=hgv;have hq:=HR29.out;rw [hp] at hq;go_wp2;exact ⟨rfl,GvV.badOf hq.symm (G35.out.step hg (.inl rfl))⟩
  rw [hp] at hgv;obtain ⟨⟨v9,rfl,hG⟩,hP9,hr9,hg⟩:=hgv;have hq:=HR29.out;rw [hp] at hq;try rw [bind_okE] at hq
  have HR38:=qh hq;clear hq HR29;have P39:=qh hP9;have R40:=qh hr9;replace X10:=hbq hg Z36 X10;replace X23:=hbq hg Z36 X23;have O43:=qh (Ow.gr2 O34.out hg (by rw [OB.out];intro e0;injection e0 with e0;have z:=Z36.out;omega));clear O34 P31;have G44:=qh (G35.out.step hg (.inl rfl));clear G35;have Z45:=hzz hg Z36;clear hg hP9 hr9 R30;obtain rfl:=hG;obtain ⟨vb,vn⟩:=v1;clear hp VC;by_cases hbad:ta=true∨2<ty1∨(vb=true∧ty1=1)∨(vb=false∧ty1=2)
  ·skip
   have hq:=HR38.out;rw [if_pos hbad] at hq;have HR46:=qh hq;clear hq HR38;have hpos:=TP.out;have ⟨c3,_⟩:=cell_of X23.out (i:=3) rfl;have ⟨c1,_⟩:=cell_of X23.out (i:=1) rfl;have q1:ta=false→((ty1:Int) != (if vb=true then 2 else 1))=true:=by
    intro ht;rw [bne_iff_ne];have hpos:1≤ty1:=hpos;rcases hbad with h|h|⟨h,h2⟩|⟨h,h2⟩
    ·rw [ht] at h;cases h
    ·split<;>omega
    ·rw [h,h2];decide
    ·rw [h,h2];decide
   clear hbad hpos;generalize (if vb=true then (2:Int) else 1)=kv at *;cases ta
   ·skip
    have q2:=q1 rfl;clear q1;go_wp2_with (first|((with_reducible refine m_load X10.out 34 4 ?_ ?_ ?_ ?_ ?_ ?_);rfl;rfl;rfl;rfl;kernel_rfl)|(go_at_call 73;fail))
    refine (fail_any 1 (tr.hd r) _).mono ?_;rintro e wz ⟨rfl,hb⟩;go_wp2;exact ⟨rfl,GvV.badOf HR46.out.symm (G44.out.step (gr_of (row:=some w9.heap.size) hb) (.inr (.inr (qq Z45))))⟩
   ·skip
    clear q1;go_wp2_with (first|((with_reducible refine m_load X10.out 34 4 ?_ ?_ ?_ ?_ ?_ ?_);rfl;rfl;rfl;rfl;kernel_rfl)|(go_at_call 73;fail))
    refine (fail_any 1 (tr.hd r) _).mono ?_;rintro e wz ⟨rfl,hb⟩;go_wp2;exact ⟨rfl,GvV.badOf HR46.out.symm (G44.out.step (gr_of (row:=some w9.heap.size) hb) (.inr (.inr (qq Z45))))⟩
  ·skip
   have hq:=HR38.out;rw [if_neg hbad] at hq;simp only [bind_okE] at hq;have HR46:=qh hq;clear hq HR38;have hpos:1≤ty1:=TP.out;obtain rfl:ta=false:=by cases ta<;>simp_all
   have ⟨c3,_⟩:=cell_of X23.out (i:=3) rfl;have ⟨c1,_⟩:=cell_of X23.out (i:=1) rfl;have ⟨c6,k6⟩:=cell_of X23.out (i:=6) rfl;have q1:((ty1:Int) != (if vb=true then 2 else 1))=false:=by
    have h1:¬ (2<ty1):=fun h=>hbad (.inr (.inl h))
    have h2:¬ (vb=true∧ty1=1):=fun h=>hbad (.inr (.inr (.inl h)))
    have h3:¬ (vb=false∧ty1=2):=fun h=>hbad (.inr (.inr (.inr h)))
    rw [bne_eq_false_iff_eq];cases vb
    ·simp at h3 ⊢;omega
    ·simp at h2 ⊢;omega
   clear hbad hpos;generalize (if vb=true then (2:Int) else 1)=kv at *;go_upto_region 7 with (fail)
   clear c3 c1 c6 k6 q1;have hg:=gr_set w9 (w6.heap.size) 6 (.int .i64 vn);have hx:Box (w9.setCell ⟨w6.heap.size,6,none⟩ (.int .i64 vn)) (w6.heap.size) 0 (vC ⟨[],ty1,0,false,tlo,thi,vn,0⟩):=Box.put X23.out 6 (show 6<8 by decide) (.int .i64 vn);have hs:(w9.setCell ⟨w6.heap.size,6,none⟩ (.int .i64 vn)).heap.size=w9.heap.size:=set_size _ _ _;generalize w9.setCell ⟨w6.heap.size,6,none⟩ (.int .i64 vn)=w10 at *;have X47:=qh hx;have Z48:=qh (And.intro hs Z45.out);clear hx hs X23;replace X10:=hbq hg Z45 X10;have O50:=qh (Ow.gr2 O43.out hg (by rw [OB.out];intro e0;injection e0 with e0;have z:=Z45.out;omega));clear O43;replace P39:=pgq hg Z45 P39;have G52:=qh (G44.out.step hg (.inr (.inr (qq Z45))));clear G44;have Z53:=hzz hg Z48;clear hg;obtain ⟨ta,hta⟩:∃ ta,ta=false:=⟨_,rfl⟩;skip
   go_upto_region 8 with (fail)
   go_loopw [35] (fun s35 wr=>∃ j:Nat,j≤ns.length∧s35=.int .i64 j∧Par wr g r2 (.slice (some ⟨b,0,none⟩) N cap) d∧Box wr w6.heap.size 0 (vC ⟨[],ty1,0,false,tlo,thi,vn,0⟩)∧Ow vC 8 60 wr (g+1) (.slice (some ⟨b,0,none⟩) N cap) (vs++((ns.take j).map (updV (ty1,false,tlo,thi) vn)++ns.drop j))∧Fr g (.slice (some ⟨b,0,none⟩) N cap) w wr∧w6.heap.size<wr.heap.size) (fun i _=>ns.length-(intOf i).toNat)
   case atStart=>exact ⟨0,Nat.zero_le _,rfl,P39.out,X47.out,by simpa using O50.out,G52.out,(qq Z53)⟩
   case round=>
    obtain ⟨j,hj,rfl,hP',hX',hO',hG',hS'⟩:=hrel;clear P39 G52 X10 X47 O50;have P1:=qh hP';have X1:=qh hX';have O1:=qh hO';have G1:=qh hG';have ZS:=qh (And.intro hS' Z53.out);clear hP' hX' hO' hG' hS';have w1:IntKind.i64.wrap ((j:Int)+1)=j+1:=by rw [IntKind.wrap_i64];have:=HLN.out;omega
    by_cases hlt:j<ns.length
    ·skip
     obtain ⟨x,hx⟩:∃ x,ns[j]?=some x:=⟨_,List.getElem?_eq_getElem hlt⟩;have HX:=qh hx;have hz:(j:Int)<ns.length:=by omega
     clear hx;have HAT:=qh (show (vs++((ns.take j).map (updV (ty1,false,tlo,thi) vn)++ns.drop j))[vs.length+j]?=some x by
      rw [List.getElem?_append_right (Nat.le_add_right _ _),Nat.add_sub_cancel_left,List.getElem?_append_right (by rw [List.length_map,List.length_take];omega),List.length_map,List.length_take,Nat.min_eq_left (by omega),Nat.sub_self,List.getElem?_drop,Nat.add_zero];exact HX.out)
     have HSET:=qh (show (vs++((ns.take j).map (updV (ty1,false,tlo,thi) vn)++ns.drop j)).set (vs.length+j) (updV (ty1,false,tlo,thi) vn x)=vs++((ns.take (j+1)).map (updV (ty1,false,tlo,thi) vn)++ns.drop (j+1)) by
      have hx:=HX.out;obtain ⟨h1,h2⟩:=List.getElem?_eq_some_iff.1 hx;rw [List.set_append_right _ _ (Nat.le_add_right _ _),Nat.add_sub_cancel_left,List.set_append_right _ _ (by rw [List.length_map,List.length_take];omega),List.length_map,List.length_take,Nat.min_eq_left (by omega),Nat.sub_self];rw [List.drop_eq_getElem_cons h1,List.set_cons_zero,List.take_succ_eq_append_getElem h1,List.map_append,List.append_assoc,h2];rfl)
     generalize (vs++((ns.take j).map (updV (ty1,false,tlo,thi) vn)++ns.drop j))=L at *;go_upto_region 11 with (fail)
     refine wp_region_T (by kernel_rfl) (fun w'=>Box w' (w6.heap.size) 0 (vC ⟨[],ty1,0,false,tlo,thi,vn,0⟩)) [] (box_drew X1.out) (fun hHeld=>?_);have hb:=(Below.refl wr.heap.size wr).drew;generalize wr.drew=w11 at *;have hg:=gr_of (row:=some wr.heap.size) hb;have X301:=hbq hg ZS X1;clear X1;have O302:=qh (Ow.gr2 O1.out hg (by rw [OB.out];intro e0;injection e0 with e0;have z:=ZS.out;omega));clear O1;have P303:=pgq hg ZS P1;clear P1;have G304:=qh (G1.out.step hg (.inr (.inr (qq ZS))));clear G1;have Z305:=hzz hg ZS;clear hg hb;refine tkr (i:=0) rfl ?_;try simp only [lq0,lq7,lq1,lq2,lq3,lq4,lq5,lq6]
     refine tkr (i:=5) rfl ?_;try simp only [lq0,lq7,lq1,lq2,lq3,lq4,lq5,lq6]
     refine tkq (i:=6) (v:=?_) rfl ?_ ?_;rotate_left 1
     ·intro w_ hSw;obtain ⟨c1,_⟩:=cell_of hSw (i:=1) rfl;go_simp<;>(with_reducible rfl)
     try simp only [lq0,lq7,lq1,lq2,lq3,lq4,lq5,lq6]
     refine tkr (i:=1) rfl ?_;try simp only [lq0,lq7,lq1,lq2,lq3,lq4,lq5,lq6]
     refine tkr (i:=2) rfl ?_;try simp only [lq0,lq7,lq1,lq2,lq3,lq4,lq5,lq6]
     refine tkr (i:=3) rfl ?_;try simp only [lq0,lq7,lq1,lq2,lq3,lq4,lq5,lq6]
     refine tkr (i:=4) rfl ?_;try simp only [lq0,lq7,lq1,lq2,lq3,lq4,lq5,lq6]
     refine tkr (i:=7) rfl ?_;try simp only [lq0,lq7,lq1,lq2,lq3,lq4,lq5,lq6]
     refine tkq (i:=8) (v:=?_) rfl ?_ ?_;rotate_left 1
     ·intro w_ hSw;obtain ⟨c3,_⟩:=cell_of hSw (i:=3) rfl;go_simp<;>(with_reducible rfl)
     try simp only [lq0,lq7,lq1,lq2,lq3,lq4,lq5,lq6]
     refine tkr (i:=9) rfl ?_;try simp only [lq0,lq7,lq1,lq2,lq3,lq4,lq5,lq6]
     refine tkq (i:=10) (v:=?_) rfl ?_ ?_;rotate_left 1
     ·intro w_ hSw;obtain ⟨c4,_⟩:=cell_of hSw (i:=4) rfl;go_simp<;>(with_reducible rfl)
     try simp only [lq0,lq7,lq1,lq2,lq3,lq4,lq5,lq6]
     refine tkr (i:=11) rfl ?_;try simp only [lq0,lq7,lq1,lq2,lq3,lq4,lq5,lq6]
     refine tkq (i:=12) (v:=?_) rfl ?_ ?_;rotate_left 1
     ·intro w_ hSw;obtain ⟨c5,_⟩:=cell_of hSw (i:=5) rfl;go_simp<;>(with_reducible rfl)
     try simp only [lq0,lq7,lq1,lq2,lq3,lq4,lq5,lq6]
     refine tkr (i:=13) rfl ?_;try simp only [lq0,lq7,lq1,lq2,lq3,lq4,lq5,lq6]
     refine tkq (i:=14) (v:=?_) rfl ?_ ?_;rotate_left 1
     ·intro w_ hSw;obtain ⟨c6,_⟩:=cell_of hSw (i:=6) rfl;go_simp<;>(with_reducible rfl)
     try simp only [lq0,lq7,lq1,lq2,lq3,lq4,lq5,lq6]
     refine tkr (i:=15) rfl ?_;try simp only [lq0,lq7,lq1,lq2,lq3,lq4,lq5,lq6]
     refine tkr (i:=16) rfl ?_;try simp only [lq0,lq7,lq1,lq2,lq3,lq4,lq5,lq6]
     refine wpAnyT_ready (rs:=[17]) (by kernel_rfl) (by simp) ?_;refine AllReadyT.cons rfl (fun K hK=>?_) AllReadyT.nil;refine t_setrow vC_len O302.out (vs.length+j) 1 ({x with type:=ty1}) (.int .i64 ty1) HAT.out (by decide) rfl (ow_free O302.out) 3 57 47 (vs.length*8+j*8+1) (by omega) rfl rfl rfl rfl rfl rfl (by kernel_rfl) ?_;intro w12 hO hg hs;have HO:=qh hO;have HS:=qh hs;clear hO hs;have X307:=hbq hg Z305 X301;clear X301;have P308:=pgq hg Z305 P303;clear P303;have G309:=qh (G304.out.step hg (.inr (.inl rfl)));clear G304;have Z310:=hzz hg Z305;have Z306:=HS;clear HS hg;have O311:=HO;clear O302 HO;refine hK.out _ _ X307.out (fun hHeld=>?_);clear hK K;try simp only [lq0,lq7,lq1,lq2,lq3,lq4,lq5,lq6]
     refine tkr (i:=18) rfl ?_;try simp only [lq0,lq7,lq1,lq2,lq3,lq4,lq5,lq6]
     refine tkr (i:=19) rfl ?_;try simp only [lq0,lq7,lq1,lq2,lq3,lq4,lq5,lq6]
     refine wpAnyT_ready (rs:=[20]) (by kernel_rfl) (by simp) ?_;refine AllReadyT.cons rfl (fun K hK=>?_) AllReadyT.nil;refine t_setrow vC_len O311.out (vs.length+j) 3 ({({x with type:=ty1}) with array:=false}) (.bool false) (List.getElem?_set_self (by have:=(List.getElem?_eq_some_iff.1 HAT.out).1;simpa using this)) (by decide) rfl (ow_free O311.out) 4 59 49 (vs.length*8+j*8+3) (by omega) rfl rfl rfl rfl rfl rfl (by kernel_rfl) ?_;intro w13 hO hg hs;have HO:=qh hO;have HS:=qh hs;clear hO hs;have X313:=hbx hg (by have z306:=Z306.out;have z:=Z310.out;omega) X307;clear X307;have P314:=qh (P308.out.gr hg (by have z306:=Z306.out;have z:=Z310.out;omega));clear P308;have G315:=qh (G309.out.step hg (.inr (.inl rfl)));clear G309;have Z316:=hzz hg Z310;have Z312:=HS;clear HS hg;have O317:=HO;clear O311 HO;refine hK.out _ _ X313.out (fun hHeld=>?_);clear hK K;try simp only [lq0,lq7,lq1,lq2,lq3,lq4,lq5,lq6]
     refine tkr (i:=21) rfl ?_;try simp only [lq0,lq7,lq1,lq2,lq3,lq4,lq5,lq6]
     refine tkr (i:=22) rfl ?_;try simp only [lq0,lq7,lq1,lq2,lq3,lq4,lq5,lq6]
     refine wpAnyT_ready (rs:=[23]) (by kernel_rfl) (by simp) ?_;refine AllReadyT.cons rfl (fun K hK=>?_) AllReadyT.nil;refine t_setrow vC_len O317.out (vs.length+j) 4 ({({({x with type:=ty1}) with array:=false}) with lo:=tlo}) (.int .i64 tlo) (List.getElem?_set_self (by have:=(List.getElem?_eq_some_iff.1 HAT.out).1;simpa using this)) (by decide) rfl (ow_free O317.out) 2 61 51 (vs.length*8+j*8+4) (by omega) rfl rfl rfl rfl rfl rfl (by kernel_rfl) ?_;intro w14 hO hg hs;have HO:=qh hO;have HS:=qh hs;clear hO hs;have X319:=hbx hg (by have z306:=Z306.out;have z312:=Z312.out;have z:=Z316.out;omega) X313;clear X313;have P320:=qh (P314.out.gr hg (by have z306:=Z306.out;have z312:=Z312.out;have z:=Z316.out;omega));clear P314;have G321:=qh (G315.out.step hg (.inr (.inl rfl)));clear G315;have Z322:=hzz hg Z316;have Z318:=HS;clear HS hg;have O323:=HO;clear O317 HO;refine hK.out _ _ X319.out (fun hHeld=>?_);clear hK K;try simp only [lq0,lq7,lq1,lq2,lq3,lq4,lq5,lq6]
     refine tkr (i:=24) rfl ?_;try simp only [lq0,lq7,lq1,lq2,lq3,lq4,lq5,lq6]
     refine tkr (i:=25) rfl ?_;try simp only [lq0,lq7,lq1,lq2,lq3,lq4,lq5,lq6]
     refine wpAnyT_ready (rs:=[26]) (by kernel_rfl) (by simp) ?_;refine AllReadyT.cons rfl (fun K hK=>?_) AllReadyT.nil;refine t_setrow vC_len O323.out (vs.length+j) 5 ({({({({x with type:=ty1}) with array:=false}) with lo:=tlo}) with hi:=thi}) (.int .i64 thi) (List.getElem?_set_self (by have:=(List.getElem?_eq_some_iff.1 HAT.out).1;simpa using this)) (by decide) rfl (ow_free O323.out) 2 63 53 (vs.length*8+j*8+5) (by omega) rfl rfl rfl rfl rfl rfl (by kernel_rfl) ?_;intro w15 hO hg hs;have HO:=qh hO;have HS:=qh hs;clear hO hs;have X325:=hbx hg (by have z306:=Z306.out;have z312:=Z312.out;have z318:=Z318.out;have z:=Z322.out;omega) X319;clear X319;have P326:=qh (P320.out.gr hg (by have z306:=Z306.out;have z312:=Z312.out;have z318:=Z318.out;have z:=Z322.out;omega));clear P320;have G327:=qh (G321.out.step hg (.inr (.inl rfl)));clear G321;have Z328:=hzz hg Z322;have Z324:=HS;clear HS hg;have O329:=HO;clear O323 HO;refine hK.out _ _ X325.out (fun hHeld=>?_);clear hK K;try simp only [lq0,lq7,lq1,lq2,lq3,lq4,lq5,lq6]
     refine tkr (i:=27) rfl ?_;try simp only [lq0,lq7,lq1,lq2,lq3,lq4,lq5,lq6]
     refine tkr (i:=28) rfl ?_;try simp only [lq0,lq7,lq1,lq2,lq3,lq4,lq5,lq6]
     refine wpAnyT_ready (rs:=[29]) (by kernel_rfl) (by simp) ?_;refine AllReadyT.cons rfl (fun K hK=>?_) AllReadyT.nil;refine t_setrow vC_len O329.out (vs.length+j) 6 ({({({({({x with type:=ty1}) with array:=false}) with lo:=tlo}) with hi:=thi}) with init:=vn}) (.int .i64 (vn)) (List.getElem?_set_self (by have:=(List.getElem?_eq_some_iff.1 HAT.out).1;simpa using this)) (by decide) rfl (ow_free O329.out) 2 65 55 (vs.length*8+j*8+6) (by omega) rfl rfl rfl rfl rfl rfl (by kernel_rfl) ?_;intro w16 hO hg hs;have HO:=qh hO;have HS:=qh hs;clear hO hs;have X331:=hbx hg (by have z306:=Z306.out;have z312:=Z312.out;have z318:=Z318.out;have z324:=Z324.out;have z:=Z328.out;omega) X325;clear X325;have P332:=qh (P326.out.gr hg (by have z306:=Z306.out;have z312:=Z312.out;have z318:=Z318.out;have z324:=Z324.out;have z:=Z328.out;omega));clear P326;have G333:=qh (G327.out.step hg (.inr (.inl rfl)));clear G327;have Z334:=hzz hg Z328;have Z330:=HS;clear HS hg;have O335:=HO;clear O329 HO;refine hK.out _ _ X331.out (fun hHeld=>?_);clear hK K;try simp only [lq0,lq7,lq1,lq2,lq3,lq4,lq5,lq6]
     refine wpAnyT_done (by kernel_rfl) ?_ _;have HOF:=qh (show Ow vC 8 60 w16 (g+1) (.slice (some ⟨b,0,none⟩) N cap) (L.set (vs.length+j) (updV (ty1,false,tlo,thi) vn x)) by
      have h9:=O335.out;simp only [List.set_set] at h9;exact h9)
     rw [HSET.out] at HOF;go_wp2_with fail
     go_roundw
     case rel=>exact ⟨j+1,by omega,by go_num,P332.out,X331.out,HOF.out,G333.out,(by have z306:=Z306.out;have z312:=Z312.out;have z318:=Z318.out;have z324:=Z324.out;have z330:=Z330.out;have z:=Z334.out;omega)⟩
     case measure=>simp [intOf];omega
    ·skip
     have ej:j=ns.length:=by omega
     have hz:¬ (j:Int)<ns.length:=by omega
     have HOF:=qh (show Ow vC 8 60 wr (g+1) (.slice (some ⟨b,0,none⟩) N cap) (vs++ns.map (updV (ty1,false,tlo,thi) vn)) by
      have h9:=O1.out;rw [ej,List.take_length,List.drop_length,List.append_nil] at h9;exact h9)
     clear ej O1;go_wp2_with fail
     refine end0 rfl rfl ?_;exact GvV.okOf HR46.out.symm R40.out G1.out (LinkV.refl _ _) P1.out HOF.out
 ·skip
  have hq:=HR15.out;rw [if_neg hw] at hq;simp only [bind_okE] at hq;have HR29:=qh hq;clear hq HR15;go_wp2_with (go_at_call 76;fail)
  refine (take_no P16.out R17.out (hnq R17 hw)).mono ?_;rintro e w8 ⟨rfl,hb⟩;have hg:=gr_of (row:=some w7.heap.size) hb;replace X10:=hbq hg Z28 X10;replace X23:=hbq hg Z28 X23;have O32:=qh (Ow.gr2 O25.out hg (by rw [OB.out];intro e0;injection e0 with e0;have z:=Z28.out;omega));clear O25;replace P16:=pgq hg Z28 P16;have G34:=qh (G27.out.step hg (.inr (.inr (qq Z28))));clear G27;have Z35:=hzz hg Z28;clear hg hb;go_upto_region 8 with (fail)
  go_loopw [35] (fun s35 wr=>∃ j:Nat,j≤ns.length∧s35=.int .i64 j∧Par wr g r1 (.slice (some ⟨b,0,none⟩) N cap) d∧Box wr w6.heap.size 0 (vC ⟨[],ty1,0,ta,tlo,thi,0,0⟩)∧Ow vC 8 60 wr (g+1) (.slice (some ⟨b,0,none⟩) N cap) (vs++((ns.take j).map (updV (ty1,ta,tlo,thi) 0)++ns.drop j))∧Fr g (.slice (some ⟨b,0,none⟩) N cap) w wr∧w6.heap.size<wr.heap.size) (fun i _=>ns.length-(intOf i).toNat)
  case atStart=>exact ⟨0,Nat.zero_le _,rfl,P16.out,X23.out,by simpa using O32.out,G34.out,(qq Z35)⟩
  case round=>
   obtain ⟨j,hj,rfl,hP',hX',hO',hG',hS'⟩:=hrel;clear P16 G34 X10 X23 O32;have P1:=qh hP';have X1:=qh hX';have O1:=qh hO';have G1:=qh hG';have ZS:=qh (And.intro hS' Z35.out);clear hP' hX' hO' hG' hS';have w1:IntKind.i64.wrap ((j:Int)+1)=j+1:=by rw [IntKind.wrap_i64];have:=HLN.out;omega
   by_cases hlt:j<ns.length
   ·skip
    obtain ⟨x,hx⟩:∃ x,ns[j]?=some x:=⟨_,List.getElem?_eq_getElem hlt⟩;have HX:=qh hx;have hz:(j:Int)<ns.length:=by omega
    clear hx;have HAT:=qh (show (vs++((ns.take j).map (updV (ty1,ta,tlo,thi) 0)++ns.drop j))[vs.length+j]?=some x by
     rw [List.getElem?_append_right (Nat.le_add_right _ _),Nat.add_sub_cancel_left,List.getElem?_append_right (by rw [List.length_map,List.length_take];omega),List.length_map,List.length_take,Nat.min_eq_left (by omega),Nat.sub_self,List.getElem?_drop,Nat.add_zero];exact HX.out)
    have HSET:=qh (show (vs++((ns.take j).map (updV (ty1,ta,tlo,thi) 0)++ns.drop j)).set (vs.length+j) (updV (ty1,ta,tlo,thi) 0 x)=vs++((ns.take (j+1)).map (updV (ty1,ta,tlo,thi) 0)++ns.drop (j+1)) by
     have hx:=HX.out;obtain ⟨h1,h2⟩:=List.getElem?_eq_some_iff.1 hx;rw [List.set_append_right _ _ (Nat.le_add_right _ _),Nat.add_sub_cancel_left,List.set_append_right _ _ (by rw [List.length_map,List.length_take];omega),List.length_map,List.length_take,Nat.min_eq_left (by omega),Nat.sub_self];rw [List.drop_eq_getElem_cons h1,List.set_cons_zero,List.take_succ_eq_append_getElem h1,List.map_append,List.append_assoc,h2];rfl)
    generalize (vs++((ns.take j).map (updV (ty1,ta,tlo,thi) 0)++ns.drop j))=L at *;go_upto_region 11 with (fail)
    refine wp_region_T (by kernel_rfl) (fun w'=>Box w' (w6.heap.size) 0 (vC ⟨[],ty1,0,ta,tlo,thi,0,0⟩)) [] (box_drew X1.out) (fun hHeld=>?_);have hb:=(Below.refl wr.heap.size wr).drew;generalize wr.drew=w9 at *;have hg:=gr_of (row:=some wr.heap.size) hb;have X301:=hbq hg ZS X1;clear X1;have O302:=qh (Ow.gr2 O1.out hg (by rw [OB.out];intro e0;injection e0 with e0;have z:=ZS.out;omega));clear O1;have P303:=pgq hg ZS P1;clear P1;have G304:=qh (G1.out.step hg (.inr (.inr (qq ZS))));clear G1;have Z305:=hzz hg ZS;clear hg hb;refine tkr (i:=0) rfl ?_;try simp only [lq0,lq7,lq1,lq2,lq3,lq4,lq5,lq6]
    refine tkr (i:=5) rfl ?_;try simp only [lq0,lq7,lq1,lq2,lq3,lq4,lq5,lq6]
    refine tkq (i:=6) (v:=?_) rfl ?_ ?_;rotate_left 1
    ·intro w_ hSw;obtain ⟨c1,_⟩:=cell_of hSw (i:=1) rfl;go_simp<;>(with_reducible rfl)
    try simp only [lq0,lq7,lq1,lq2,lq3,lq4,lq5,lq6]
    refine tkr (i:=1) rfl ?_;try simp only [lq0,lq7,lq1,lq2,lq3,lq4,lq5,lq6]
    refine tkr (i:=2) rfl ?_;try simp only [lq0,lq7,lq1,lq2,lq3,lq4,lq5,lq6]
    refine tkr (i:=3) rfl ?_;try simp only [lq0,lq7,lq1,lq2,lq3,lq4,lq5,lq6]
    refine tkr (i:=4) rfl ?_;try simp only [lq0,lq7,lq1,lq2,lq3,lq4,lq5,lq6]
    refine tkr (i:=7) rfl ?_;try simp only [lq0,lq7,lq1,lq2,lq3,lq4,lq5,lq6]
    refine tkq (i:=8) (v:=?_) rfl ?_ ?_;rotate_left 1
    ·intro w_ hSw;obtain ⟨c3,_⟩:=cell_of hSw (i:=3) rfl;go_simp<;>(with_reducible rfl)
    try simp only [lq0,lq7,lq1,lq2,lq3,lq4,lq5,lq6]
    refine tkr (i:=9) rfl ?_;try simp only [lq0,lq7,lq1,lq2,lq3,lq4,lq5,lq6]
    refine tkq (i:=10) (v:=?_) rfl ?_ ?_;rotate_left 1
    ·intro w_ hSw;obtain ⟨c4,_⟩:=cell_of hSw (i:=4) rfl;go_simp<;>(with_reducible rfl)
    try simp only [lq0,lq7,lq1,lq2,lq3,lq4,lq5,lq6]
    refine tkr (i:=11) rfl ?_;try simp only [lq0,lq7,lq1,lq2,lq3,lq4,lq5,lq6]
    refine tkq (i:=12) (v:=?_) rfl ?_ ?_;rotate_left 1
    ·intro w_ hSw;obtain ⟨c5,_⟩:=cell_of hSw (i:=5) rfl;go_simp<;>(with_reducible rfl)
    try simp only [lq0,lq7,lq1,lq2,lq3,lq4,lq5,lq6]
    refine tkr (i:=13) rfl ?_;try simp only [lq0,lq7,lq1,lq2,lq3,lq4,lq5,lq6]
    refine tkq (i:=14) (v:=?_) rfl ?_ ?_;rotate_left 1
    ·intro w_ hSw;obtain ⟨c6,_⟩:=cell_of hSw (i:=6) rfl;go_simp<;>(with_reducible rfl)
    try simp only [lq0,lq7,lq1,lq2,lq3,lq4,lq5,lq6]
    refine tkr (i:=15) rfl ?_;try simp only [lq0,lq7,lq1,lq2,lq3,lq4,lq5,lq6]
    refine tkr (i:=16) rfl ?_;try simp only [lq0,lq7,lq1,lq2,lq3,lq4,lq5,lq6]
    refine wpAnyT_ready (rs:=[17]) (by kernel_rfl) (by simp) ?_;refine AllReadyT.cons rfl (fun K hK=>?_) AllReadyT.nil;refine t_setrow vC_len O302.out (vs.length+j) 1 ({x with type:=ty1}) (.int .i64 ty1) HAT.out (by decide) rfl (ow_free O302.out) 3 57 47 (vs.length*8+j*8+1) (by omega) rfl rfl rfl rfl rfl rfl (by kernel_rfl) ?_;intro w10 hO hg hs;have HO:=qh hO;have HS:=qh hs;clear hO hs;have X307:=hbq hg Z305 X301;clear X301;have P308:=pgq hg Z305 P303;clear P303;have G309:=qh (G304.out.step hg (.inr (.inl rfl)));clear G304;have Z310:=hzz hg Z305;have Z306:=HS;clear HS hg;have O311:=HO;clear O302 HO;refine hK.out _ _ X307.out (fun hHeld=>?_);clear hK K;try simp only [lq0,lq7,lq1,lq2,lq3,lq4,lq5,lq6]
    refine tkr (i:=18) rfl ?_;try simp only [lq0,lq7,lq1,lq2,lq3,lq4,lq5,lq6]
    refine tkr (i:=19) rfl ?_;try simp only [lq0,lq7,lq1,lq2,lq3,lq4,lq5,lq6]
    refine wpAnyT_ready (rs:=[20]) (by kernel_rfl) (by simp) ?_;refine AllReadyT.cons rfl (fun K hK=>?_) AllReadyT.nil;refine t_setrow vC_len O311.out (vs.length+j) 3 ({({x with type:=ty1}) with array:=ta}) (.bool ta) (List.getElem?_set_self (by have:=(List.getElem?_eq_some_iff.1 HAT.out).1;simpa using this)) (by decide) rfl (ow_free O311.out) 4 59 49 (vs.length*8+j*8+3) (by omega) rfl rfl rfl rfl rfl rfl (by kernel_rfl) ?_;intro w11 hO hg hs;have HO:=qh hO;have HS:=qh hs;clear hO hs;have X313:=hbx hg (by have z306:=Z306.out;have z:=Z310.out;omega) X307;clear X307;have P314:=qh (P308.out.gr hg (by have z306:=Z306.out;have z:=Z310.out;omega));clear P308;have G315:=qh (G309.out.step hg (.inr (.inl rfl)));clear G309;have Z316:=hzz hg Z310;have Z312:=HS;clear HS hg;have O317:=HO;clear O311 HO;refine hK.out _ _ X313.out (fun hHeld=>?_);clear hK K;try simp only [lq0,lq7,lq1,lq2,lq3,lq4,lq5,lq6]
    refine tkr (i:=21) rfl ?_;try simp only [lq0,lq7,lq1,lq2,lq3,lq4,lq5,lq6]
    refine tkr (i:=22) rfl ?_;try simp only [lq0,lq7,lq1,lq2,lq3,lq4,lq5,lq6]
    refine wpAnyT_ready (rs:=[23]) (by kernel_rfl) (by simp) ?_;refine AllReadyT.cons rfl (fun K hK=>?_) AllReadyT.nil;refine t_setrow vC_len O317.out (vs.length+j) 4 ({({({x with type:=ty1}) with array:=ta}) with lo:=tlo}) (.int .i64 tlo) (List.getElem?_set_self (by have:=(List.getElem?_eq_some_iff.1 HAT.out).1;simpa using this)) (by decide) rfl (ow_free O317.out) 2 61 51 (vs.length*8+j*8+4) (by omega) rfl rfl rfl rfl rfl rfl (by kernel_rfl) ?_;intro w12 hO hg hs;have HO:=qh hO;have HS:=qh hs;clear hO hs;have X319:=hbx hg (by have z306:=Z306.out;have z312:=Z312.out;have z:=Z316.out;omega) X313;clear X313;have P320:=qh (P314.out.gr hg (by have z306:=Z306.out;have z312:=Z312.out;have z:=Z316.out;omega));clear P314;have G321:=qh (G315.out.step hg (.inr (.inl rfl)));clear G315;have Z322:=hzz hg Z316;have Z318:=HS;clear HS hg;have O323:=HO;clear O317 HO;refine hK.out _ _ X319.out (fun hHeld=>?_);clear hK K;try simp only [lq0,lq7,lq1,lq2,lq3,lq4,lq5,lq6]
    refine tkr (i:=24) rfl ?_;try simp only [lq0,lq7,lq1,lq2,lq3,lq4,lq5,lq6]
    refine tkr (i:=25) rfl ?_;try simp only [lq0,lq7,lq1,lq2,lq3,lq4,lq5,lq6]
    refine wpAnyT_ready (rs:=[26]) (by kernel_rfl) (by simp) ?_;refine AllReadyT.cons rfl (fun K hK=>?_) AllReadyT.nil;refine t_setrow vC_len O323.out (vs.length+j) 5 ({({({({x with type:=ty1}) with array:=ta}) with lo:=tlo}) with hi:=thi}) (.int .i64 thi) (List.getElem?_set_self (by have:=(List.getElem?_eq_some_iff.1 HAT.out).1;simpa using this)) (by decide) rfl (ow_free O323.out) 2 63 53 (vs.length*8+j*8+5) (by omega) rfl rfl rfl rfl rfl rfl (by kernel_rfl) ?_;intro w13 hO hg hs;have HO:=qh hO;have HS:=qh hs;clear hO hs;have X325:=hbx hg (by have z306:=Z306.out;have z312:=Z312.out;have z318:=Z318.out;have z:=Z322.out;omega) X319;clear X319;have P326:=qh (P320.out.gr hg (by have z306:=Z306.out;have z312:=Z312.out;have z318:=Z318.out;have z:=Z322.out;omega));clear P320;have G327:=qh (G321.out.step hg (.inr (.inl rfl)));clear G321;have Z328:=hzz hg Z322;have Z324:=HS;clear HS hg;have O329:=HO;clear O323 HO;refine hK.out _ _ X325.out (fun hHeld=>?_);clear hK K;try simp only [lq0,lq7,lq1,lq2,lq3,lq4,lq5,lq6]
    refine tkr (i:=27) rfl ?_;try simp only [lq0,lq7,lq1,lq2,lq3,lq4,lq5,lq6]
    refine tkr (i:=28) rfl ?_;try simp only [lq0,lq7,lq1,lq2,lq3,lq4,lq5,lq6]
    refine wpAnyT_ready (rs:=[29]) (by kernel_rfl) (by simp) ?_;refine AllReadyT.cons rfl (fun K hK=>?_) AllReadyT.nil;refine t_setrow vC_len O329.out (vs.length+j) 6 ({({({({({x with type:=ty1}) with array:=ta}) with lo:=tlo}) with hi:=thi}) with init:=0}) (.int .i64 (0)) (List.getElem?_set_self (by have:=(List.getElem?_eq_some_iff.1 HAT.out).1;simpa using this)) (by decide) rfl (ow_free O329.out) 2 65 55 (vs.length*8+j*8+6) (by omega) rfl rfl rfl rfl rfl rfl (by kernel_rfl) ?_;intro w14 hO hg hs;have HO:=qh hO;have HS:=qh hs;clear hO hs;have X331:=hbx hg (by have z306:=Z306.out;have z312:=Z312.out;have z318:=Z318.out;have z324:=Z324.out;have z:=Z328.out;omega) X325;clear X325;have P332:=qh (P326.out.gr hg (by have z306:=Z306.out;have z312:=Z312.out;have z318:=Z318.out;have z324:=Z324.out;have z:=Z328.out;omega));clear P326;have G333:=qh (G327.out.step hg (.inr (.inl rfl)));clear G327;have Z334:=hzz hg Z328;have Z330:=HS;clear HS hg;have O335:=HO;clear O329 HO;refine hK.out _ _ X331.out (fun hHeld=>?_);clear hK K;try simp only [lq0,lq7,lq1,lq2,lq3,lq4,lq5,lq6]
    refine wpAnyT_done (by kernel_rfl) ?_ _;have HOF:=qh (show Ow vC 8 60 w14 (g+1) (.slice (some ⟨b,0,none⟩) N cap) (L.set (vs.length+j) (updV (ty1,ta,tlo,thi) 0 x)) by
     have h9:=O335.out;simp only [List.set_set] at h9;exact h9)
    rw [HSET.out] at HOF;go_wp2_with fail
    go_roundw
    case rel=>exact ⟨j+1,by omega,by go_num,P332.out,X331.out,HOF.out,G333.out,(by have z306:=Z306.out;have z312:=Z312.out;have z318:=Z318.out;have z324:=Z324.out;have z330:=Z330.out;have z:=Z334.out;omega)⟩
    case measure=>simp [intOf];omega
   ·skip
    have ej:j=ns.length:=by omega
    have hz:¬ (j:Int)<ns.length:=by omega
    have HOF:=qh (show Ow vC 8 60 wr (g+1) (.slice (some ⟨b,0,none⟩) N cap) (vs++ns.map (updV (ty1,ta,tlo,thi) 0)) by
     have h9:=O1.out;rw [ej,List.take_length,List.drop_length,List.append_nil] at h9;exact h9)
    clear ej O1;go_wp2_with fail
    refine end0 rfl rfl ?_;exact GvV.okOf HR29.out.symm R17.out G1.out (LinkV.refl _ _) P1.out HOF.out
end
theorem typ_bind {β:Type} (r:Sg) (G:(Int×Bool×Int×Int)→Int→Sg→Res β):((typeP r).bind fun ty r'=>
 (if txt r'=[58,61] then (valueP (r'.drop 1)).bind fun v r'=>
   if ty.2.1=true∨2<ty.1∨(v.1=true∧ty.1=1)∨(v.1=false∧ty.1=2) then .bad 1 (hd r) else .ok v.2 r'
  else .ok 0 r').bind fun init r'=>G ty init r')=(typQ r).bind fun x r'=>G x.1 x.2 r':=by
 unfold typQ;rw [bind_bind];congr 1
 funext ty r'
 rw [bind_bind];rfl
def lineK (f:Nat) (sec:Int) (vs:List Va) (ns:List Tk) (r:Sg):Res (List Va):=
 (need [58] r).bind fun _ r1=>(typQ r1).bind fun x r'=>(need [59] r').bind fun _ r'=>linesF f sec r' (vs++(ns.map (newV sec)).map (updV x.1 x.2))
theorem lines_step {f:Nat} {sec:Int} {r:Sg} {vs:List Va} (h:txt r≠[69,78,68,95,86,65,82]):linesF (f+1) sec r vs=(namesF f vs.length r []).bind (lineK f sec vs):=by
 rw [linesF,if_neg h];unfold lineP;rw [bind_bind];congr 1
 funext ns r'
 rw [bind_bind];unfold lineK;congr 1
 funext _ r1
 simp only [bind_bind,bind_okE];refine (typ_bind r1 (fun ty init r2=>(need [59] r2).bind fun _ r3=>linesF f sec r3 (vs++ns.map fun t=>(⟨t.text,ty.1,sec,ty.2.1,ty.2.2.1,ty.2.2.2,init,t.line⟩:Va)))).trans ?_;congr 1
 funext x r2
 congr 1
 funext _ r3
 rw [List.map_map];rfl
theorem names_step {f m:Nat} {r:Sg} {acc:List Tk}:namesF (f+1) m r acc=(tokP (m+acc.length) r).bind fun t r'=>if txt r'=[44] then namesF f m (r'.drop 1) (acc++[t]) else .ok (acc++[t]) r':=by
 rw [namesF];unfold tokP;by_cases h:64<m+acc.length+1
 ·rw [if_pos h,if_pos h];rfl
 ·rw [if_neg h,if_neg h]
theorem fin_typQ {r:Sg}:Fin' r.length (typQ r):=by
 unfold typQ;refine fin_bind fin_type fun ty r1 h1=>?_
 refine fin_bind (n:=r.length) ?_ fun init r2 h2=>fin_ok h2
 split
 ·refine fin_bind fin_value fun v r2 h2=>?_
  split
  ·exact fin_bad (by decide)
  ·exact fin_ok (by rw [List.length_drop] at h2;omega)
 ·exact fin_ok h1
theorem fin_tok {m:Nat} {r:Sg}:Fin' r.length (tokP m r):=by
 unfold tokP;split
 ·exact fin_bad (by decide)
 ·exact fin_want (by decide)
theorem tok_len {m:Nat} {r r':Sg} {t:Tk} (h:tokP m r=.ok t r'):m+1≤64:=by
 unfold tokP at h;split at h
 ·cases h
 ·omega
theorem names_len:∀ (f m:Nat) (r r':Sg) (acc ns:List Tk),namesF f m r acc=.ok ns r'→m+ns.length≤64
 | 0,_,_,_,_,_,h=>by cases h
 | f+1,m,r,r',acc,ns,h=>by
  rw [names_step] at h;obtain ⟨t,r1,h1,h⟩:=bind_ok h;have hm:=tok_len h1;split at h
  ·exact names_len f m _ r' _ ns h
  ·cases h
   rw [List.length_append];simp only [List.length_cons,List.length_nil];omega
theorem lines_len:∀ (f:Nat) (sec:Int) (r:Sg) (vs:List Va) {vs':List Va} {r':Sg},vs.length≤64→linesF f sec r vs=.ok vs' r'→vs'.length≤64
 | 0,_,_,_,_,_,_,h=>by cases h
 | f+1,sec,r,vs,vs',r',hv,h=>by
  by_cases hw:txt r=[69,78,68,95,86,65,82]
  ·rw [linesF,if_pos hw] at h
   cases h
   exact hv
  ·rw [lines_step hw] at h
   obtain ⟨ns,r1,h1,h⟩:=bind_ok h;have hn:=names_len _ _ _ _ _ _ h1;unfold lineK at h;obtain ⟨_,r2,_,h⟩:=bind_ok h;obtain ⟨x,r3,_,h⟩:=bind_ok h;obtain ⟨_,r4,_,h⟩:=bind_ok h;exact lines_len f sec r4 _ (by rw [List.length_append,List.length_map,List.length_map];exact hn) h
section
variable {r:Sg} {V:Value} {d g:Nat} {w:World}
theorem section_any (hP:Par w g r V d) (hr:RowOk r) {vs:List Va} (hO:Ow vC 8 60 w (g+1) V vs) (hv:vs.length≤64) (sec:Int) {f:Nat} (hf:20*r.length+2≤f) :
  Calls Tryz.prog 77 #[.pointer (some ⟨g,0,none⟩),.int .i64 sec] w (GvV g d V w (linesF f sec r vs)):=by
 obtain ⟨R,hR⟩:∃ R:Res (List Va),(linesF f sec r vs)=R:=⟨_,rfl⟩;rw [hR];have HR:=qh hR;clear hR;have O1:=qh hO;have HV:=qh hv;have HF:=qh hf;clear hO hv hf;have P1:=qh hP;have G1:=qh (Fr.refl g V w);have R1:=qh hr;have Z1:=qh (show g<w.heap.size from hP.lt);clear hP hr;go_enter Tryz.func77,Tryz.ntmps77
 go_wp2_with fail
 go_loopw [4] (fun _ wr=>∃ (vs1:List Va) (r':Sg) (fc:Nat) (V1:Value),linesF fc sec r' vs1=R∧20*r'.length+2≤fc∧vs1.length≤64∧RowOk r'∧Par wr g r' V1 d∧Ow vC 8 60 wr (g+1) V1 vs1∧Fr g V w wr∧LinkV V w V1) (fun _ wr=>rowLen wr g)
 case atStart=>exact ⟨vs,r,f,V,HR.out,HF.out,HV.out,R1.out,P1.out,O1.out,G1.out,LinkV.refl _ _⟩
 case round=>
  obtain ⟨vs1,r',fc,V1,hR',hfc,hv1,hr',hP',hO',hG',hK'⟩:=hrel;clear P1 G1 R1 HR O1;have P1:=qh hP';have O1:=qh hO';have G1:=qh hG';have R1:=qh hr';have HV1:=qh hv1;have HFC:=qh hfc;have LK1:=qh hK';have ZS:=qh (And.intro hG'.size Z1.out);have HLR:=qh hr'.len;obtain ⟨f2,rfl⟩:∃ k,fc=k+1:=⟨fc-1,by omega⟩;have HR:=qh hR';clear hP' hO' hG' hK' hr' hv1 hfc hR';have NLEN:=qh P1.out.len;by_cases hw:txt r'=[69,78,68,95,86,65,82]
  ·skip
   have hq:=HR.out;rw [linesF,if_pos hw] at hq;have HR301:=qh hq;clear hq HR;have R302:=qh (R1.out.drop (txt_kind hw (by decide)));go_wp2_with (go_at_call 76;fail)
   refine (take_yes P1.out R1.out (hyq R1 hw) (txt_kind hw (by decide))).mono ?_;rintro e w4 ⟨rfl,hp,hg⟩;have P303:=qh hp;have O304:=oqq hg ZS O1;clear O1 P1;have G305:=qh (G1.out.step hg (.inl rfl));clear G1;have Z306:=hzz hg ZS;clear hg hp R1;generalize ((r').drop 1)=r307 at *;go_wp2_with fail
   refine end0 rfl rfl ?_;exact GvV.okOf HR301.out.symm R302.out G305.out LK1.out P303.out O304.out
  have hq:=HR.out;rw [lines_step hw] at hq;have HR301:=qh hq;clear hq HR;go_wp2_with (go_at_call 76;fail)
  refine (take_no P1.out R1.out (hnq R1 hw)).mono ?_;rintro e w4 ⟨rfl,hb⟩;have hg:=gr_of (row:=some wr.heap.size) hb;have O302:=oqq hg ZS O1;clear O1;have P303:=pgq hg ZS P1;clear P1;have G304:=qh (G1.out.step hg (.inr (.inr (qq ZS))));clear G1;have Z305:=hzz hg ZS;clear hg hb;obtain ⟨A9,cap9,hV1,hrd⟩:=O302.out.form vC_len;subst hV1;have hnl:=hrd.len_le;clear hrd;obtain ⟨A1,c1,hB1,hR1⟩:=P303.out;have ⟨a0,k0,a1,k1,a2,k2,_⟩:=hB1;clear hB1 hR1;go_upto_region 3 with (fail)
  clear a0 k0 a1 k1 a2 k2;go_loopw [5] (fun s5 wx=>∃ (m:Bool) (acc:List Tk) (r2:Sg) (f3:Nat) (V2:Value),s5=.bool m∧(m=true→(namesF f3 vs1.length r2 acc).bind (lineK f2 sec vs1)=R∧20*r2.length+1≤f3)∧(m=false→lineK f2 sec vs1 acc r2=R∧r2.length<r'.length∧1≤acc.length)∧r2.length≤r'.length∧vs1.length+acc.length≤64∧RowOk r2∧Par wx g r2 V2 d∧Ow vC 8 60 wx (g+1) V2 (vs1++acc.map (newV sec))∧Fr g V w wx∧LinkV V w V2) (fun _ wx=>rowLen wx g)
  case atStart=>exact ⟨true,[],r',f2,_,rfl,fun _=>⟨HR301.out,by have:=HFC.out;omega⟩,(fun h=>by cases h),Nat.le_refl _,HV1.out,R1.out,P303.out,by simpa using O302.out,G304.out,LK1.out⟩
  case round=>
   obtain ⟨m,acc,r2,f3,V2,rfl,hm1,hm2,hle,hv2,hr',hP',hO',hG',hK'⟩:=hrel;clear P303 G304 HR301 O302;have P1:=qh hP';have O1:=qh hO';have G1:=qh hG';have R1:=qh hr';have HV2:=qh hv2;have HLE:=qh hle;have LK2:=qh hK';have ZT:=qh (And.intro hG'.size Z305.out);have HLR2:=qh hr'.len;clear hP' hO' hG' hK' hr' hv2 hle;have NLEN2:=qh P1.out.len;cases m
   ·skip
    obtain ⟨hq,hlt,hac⟩:=hm2 rfl;unfold lineK at hq;have HR:=qh hq;have HLT:=qh hlt;have HAC:=qh hac;clear hm1 hm2 hq hlt hac;have hl0:=drop_len r2;have HLD:=qh hl0;clear hl0;by_cases hs501:txt (r2)=[58]
    rotate_left
    ·have hq:=HR.out
     rw [need_badE hs501] at hq;go_wp2_with (go_at_call 47;fail)
     refine (need_no P1.out R1.out (hnq R1 hs501)).mono ?_;rintro e w5 ⟨rfl,hb⟩;go_wp2;exact ⟨rfl,GvV.badOf hq.symm (G1.out.step (gr_of (row:=some wr.heap.size) hb) (.inr (.inr (qq ZT))))⟩
    have hq:=HR.out;rw [need_okE hs501,bind_okE] at hq;have HR502:=qh hq;clear hq HR;have R503:=qh (R1.out.drop (txt_kind hs501 (by decide)));go_wp2_with (go_at_call 47;fail)
    refine (need_yes P1.out R1.out (hyq R1 hs501)).mono ?_;rintro e w5 ⟨rfl,hp,hg⟩;have P504:=qh hp;replace O1:=oqq hg ZT O1;clear P1;have G506:=qh (G1.out.step hg (.inl rfl));clear G1;have Z507:=hzz hg ZT;clear hg hp R1;generalize ((r2).drop 1)=r508 at *;have OL:=qh (show (vs1++acc.map (newV sec)).length=vs1.length+acc.length by rw [List.length_append,List.length_map]);obtain ⟨s8,hV2⟩:=Ow.sl vC_len O1.out;obtain ⟨A8,n8,c8⟩:=s8;have hV2:V2=.slice A8 n8 c8:=hV2;subst hV2;obtain ⟨A7,cap7,hV7,hrd⟩:=O1.out.form vC_len;injection hV7 with hA hn hc
    subst hA hc hn;have hcap:=hrd.2.1;have hmax:=hrd.2.2.1;obtain ⟨b,hb0⟩:∃ b,A8=some ⟨b,0,none⟩:=by
     have h9:=O1.out.2;rcases h9 with ⟨h9,h10⟩|⟨g9,cap,cur,h9,_⟩
     ·have:=OL.out;have:=HAC.out;omega
     ·injection h9 with h9;exact ⟨g9,h9⟩
    subst hb0;rw [OL.out] at hcap;obtain ⟨A1,c1,hB1,hR1⟩:=P504.out;have ⟨a0,k0,a1,k1,a2,k2,_⟩:=hB1;clear hB1 hR1 hrd;rw [OL.out] at a1;have PP:=P504;have OO:=O1;rw [OL.out] at PP OO;clear P504 O1;obtain ⟨N,hN⟩:∃ N,vs1.length+acc.length=N:=⟨_,rfl⟩;have HNN:=qh hN;rw [hN] at a1 PP OO hcap;have q1:(vs1.length:Int)≤N:=by omega
    have q2:¬ (N:Int)<vs1.length:=by omega
    have q3:¬ (c8:Int)=vs1.length:=by have:=HAC.out;omega
    have q4:(vs1.length:Int)≤c8:=by omega
    have hmax':c8≤9223372036854775807:=by unfold maxLen at hmax;omega
    have TY:=qh (typed_any (cap2:=c8-vs1.length) PP.out R503.out OO.out (by have:=HNN.out;have:=HV2.out;rw [List.length_map];omega));rw [List.length_map] at TY;have hN2:N-vs1.length=acc.length:=by have:=HNN.out;omega
    clear hN hcap hmax OL;go_wp2_with (go_at_call 114;fail)
    clear a0 k0 a1 k1 a2 k2 q1 q2 q3 q4;have FI:=qh (fin_typQ (r:=r508));refine (TY.out).mono ?_;rintro e w6 hgv;rcases hp:typQ r508 with ⟨x5,r5⟩|⟨n9,t9⟩
    rotate_left
    ·rw [hp] at hgv
     obtain ⟨rfl,hb⟩:=hgv;have hq:=HR502.out;rw [hp] at hq;go_wp2;exact ⟨rfl,GvV.badOf hq.symm (G506.out.thenV hb LK2.out)⟩
    rw [hp] at hgv;obtain ⟨rfl,hr9,hb,V5,hlk,hP9,hO9⟩:=hgv;have hq:=HR502.out;rw [hp,bind_okE] at hq;have HR509:=qh hq;clear hq HR502;have P510:=qh hP9;have O511:=qh hO9;have R512:=qh hr9;have G513:=qh (G506.out.thenV hb LK2.out);have Z514:=qh (And.intro (show w.heap.size≤w6.heap.size from G513.out.size) Z507.out);clear hP9 hO9 hr9 hb PP OO R503 G506;have LK515:=qh (LK2.out.trans (qq Z507) hlk);clear hlk;have L5:Hid (r5.length<r508.length):=by
     have:=FI.out;rw [hp] at this;exact qh this
    clear FI hp TY hN2;have hl5:=drop_len r5;have HL5:=qh hl5;clear hl5;by_cases hs516:txt (r5)=[59]
    rotate_left
    ·have hq:=HR509.out
     rw [need_badE hs516] at hq;go_wp2_with (go_at_call 47;fail)
     refine (need_no P510.out R512.out (hnq R512 hs516)).mono ?_;rintro e w7 ⟨rfl,hb⟩;go_wp2;exact ⟨rfl,GvV.badOf hq.symm (G513.out.step (gr_of (row:=some w6.heap.size) hb) (.inr (.inr (qq Z514))))⟩
    have hq:=HR509.out;rw [need_okE hs516,bind_okE] at hq;have HR517:=qh hq;clear hq HR509;have R518:=qh (R512.out.drop (txt_kind hs516 (by decide)));go_wp2_with (go_at_call 47;fail)
    refine (need_yes P510.out R512.out (hyq R512 hs516)).mono ?_;rintro e w7 ⟨rfl,hp,hg⟩;have P519:=qh hp;have O520:=oqq hg Z514 O511;clear O511 P510;have G521:=qh (G513.out.step hg (.inl rfl));clear G513;have Z522:=hzz hg Z514;clear hg hp R512;generalize ((r5).drop 1)=r523 at *;go_wp2_with fail
    go_roundw
    case rel=>exact ⟨_,_,f2,_,HR517.out,(by have z:=Z522.out;have:=HLT.out;have:=HLD.out;have:=L5.out;have:=HL5.out;have:=HLR.out;have:=HFC.out;have:=HNN.out;have:=HV2.out;omega),(by have z:=Z522.out;have:=HLT.out;have:=HLD.out;have:=L5.out;have:=HL5.out;have:=HLR.out;have:=HFC.out;have:=HNN.out;have:=HV2.out;simp only [List.length_append,List.length_map];omega),R518.out,P519.out,O520.out,G521.out,LK515.out⟩
    case measure=>rw [NLEN.out,P519.out.len];have z:=Z522.out;have:=HLT.out;have:=HLD.out;have:=L5.out;have:=HL5.out;have:=HLR.out;have:=HFC.out;have:=HNN.out;have:=HV2.out;omega
   ·skip
    obtain ⟨hq,hfu⟩:=hm1 rfl;obtain ⟨f4,rfl⟩:∃ k,f3=k+1:=⟨f3-1,by omega⟩;rw [names_step,bind_bind] at hq;have HR:=qh hq;have HFU:=qh hfu;clear hm1 hm2 hq hfu;have VA:=qh (variable_any P1.out R1.out O1.out (by have:=HV2.out;rw [List.length_append,List.length_map];omega) sec);rw [show (vs1++acc.map (newV sec)).length=vs1.length+acc.length by rw [List.length_append,List.length_map]] at VA;have FI:=qh (fin_tok (m:=vs1.length+acc.length) (r:=r2));go_wp2_with (go_at_call 113;fail)
    refine (VA.out).mono ?_;rintro e w5 hgv;rcases hp:tokP (vs1.length+acc.length) r2 with ⟨t5,r5⟩|⟨n9,t9⟩
    rotate_left
    ·rw [hp] at hgv
     obtain ⟨rfl,hb⟩:=hgv;have hq:=HR.out;rw [hp] at hq;go_wp2;exact ⟨rfl,GvV.badOf hq.symm (G1.out.thenV hb LK2.out)⟩
    rw [hp] at hgv;obtain ⟨rfl,hr9,hb,V5,hlk,hP9,hO9⟩:=hgv;have hq:=HR.out;rw [hp,bind_okE] at hq;have HR501:=qh hq;clear hq HR;have P502:=qh hP9;have O503:=qh hO9;have R504:=qh hr9;have G505:=qh (G1.out.thenV hb LK2.out);have Z506:=qh (And.intro (show w.heap.size≤w5.heap.size from G505.out.size) ZT.out);clear hP9 hO9 hr9 hb P1 O1 R1 G1;have LK507:=qh (LK2.out.trans (qq ZT) hlk);clear hlk;have L5:Hid (r5.length<r2.length):=by
     have:=FI.out;rw [hp] at this;exact qh this
    have HT:=qh (tok_len hp);clear FI hp VA;by_cases hw4:txt r5=[44]
    ·skip
     have hq:=HR501.out;rw [if_pos hw4] at hq;have HR508:=qh hq;clear hq HR501;have hl0:=drop_len r5;have HLX:=qh hl0;have HLY:=qh R504.out.len;clear hl0;have R509:=qh (R504.out.drop (txt_kind hw4 (by decide)));go_wp2_with (go_at_call 76;fail)
     refine (take_yes P502.out R504.out (hyq R504 hw4) (txt_kind hw4 (by decide))).mono ?_;rintro e w6 ⟨rfl,hp,hg⟩;have P510:=qh hp;have O511:=oqq hg Z506 O503;clear O503 P502;have G512:=qh (G505.out.step hg (.inl rfl));clear G505;have Z513:=hzz hg Z506;clear hg hp R504;generalize ((r5).drop 1)=r514 at *;go_wp2_with fail
     go_roundw
     case rel=>exact ⟨true,acc++[t5],_,f4,_,rfl,fun _=>⟨HR508.out,(by have z:=Z513.out;have:=L5.out;have:=HT.out;have:=HLE.out;have:=HFU.out;have:=HLX.out;have:=HLY.out;omega)⟩,(fun h=>by cases h),(by have z:=Z513.out;have:=L5.out;have:=HT.out;have:=HLE.out;have:=HFU.out;have:=HLX.out;have:=HLY.out;omega),(by have z:=Z513.out;have:=L5.out;have:=HT.out;have:=HLE.out;have:=HFU.out;have:=HLX.out;have:=HLY.out;simp only [List.length_append,List.length_cons,List.length_nil];omega),R509.out,P510.out,by rw [List.map_append,←List.append_assoc];exact O511.out,G512.out,LK507.out⟩
     case measure=>rw [NLEN2.out,P510.out.len];have z:=Z513.out;have:=L5.out;have:=HT.out;have:=HLE.out;have:=HFU.out;have:=HLX.out;have:=HLY.out;omega
    ·skip
     have hq:=HR501.out;rw [if_neg hw4,bind_okE] at hq;have HR508:=qh hq;clear hq HR501;go_wp2_with (go_at_call 76;fail)
     refine (take_no P502.out R504.out (hnq R504 hw4)).mono ?_;rintro e w6 ⟨rfl,hb⟩;have hg:=gr_of (row:=some w5.heap.size) hb;replace O503:=oqq hg Z506 O503;have P510:=pgq hg Z506 P502;clear P502;have G511:=qh (G505.out.step hg (.inr (.inr (qq Z506))));clear G505;have Z512:=hzz hg Z506;clear hg hb;go_wp2_with fail
     go_roundw
     case rel=>exact ⟨false,acc++[t5],_,f4,_,rfl,(fun h=>by cases h),fun _=>⟨HR508.out,(by have z:=Z512.out;have:=L5.out;have:=HT.out;have:=HLE.out;have:=HFU.out;omega),by simp⟩,(by have z:=Z512.out;have:=L5.out;have:=HT.out;have:=HLE.out;have:=HFU.out;omega),(by have z:=Z512.out;have:=L5.out;have:=HT.out;have:=HLE.out;have:=HFU.out;simp only [List.length_append,List.length_cons,List.length_nil];omega),R504.out,P510.out,by rw [List.map_append,←List.append_assoc];exact O503.out,G511.out,LK507.out⟩
     case measure=>rw [NLEN2.out,P510.out.len];have z:=Z512.out;have:=L5.out;have:=HT.out;have:=HLE.out;have:=HFU.out;omega
theorem sections_any (hP:Par w g r V d) (hr:RowOk r) {vs:List Va} (hO:Ow vC 8 60 w (g+1) V vs) (hv:vs.length≤64) {f:Nat} (hf:20*r.length+1≤f) :
  Calls Tryz.prog 48 #[.pointer (some ⟨g,0,none⟩)] w (GvV g d V w (sectsF f r vs)):=by
 obtain ⟨R,hR⟩:∃ R:Res (List Va),(sectsF f r vs)=R:=⟨_,rfl⟩;rw [hR];have HR:=qh hR;clear hR;have O1:=qh hO;have HV:=qh hv;have HF:=qh hf;clear hO hv hf;have P1:=qh hP;have G1:=qh (Fr.refl g V w);have R1:=qh hr;have Z1:=qh (show g<w.heap.size from hP.lt);clear hP hr;go_enter Tryz.func48,Tryz.ntmps48
 go_wp2_with fail
 go_loopw [3] (fun _ wr=>∃ (vs1:List Va) (r':Sg) (fc:Nat) (V1:Value),sectsF fc r' vs1=R∧20*r'.length+1≤fc∧vs1.length≤64∧RowOk r'∧Par wr g r' V1 d∧Ow vC 8 60 wr (g+1) V1 vs1∧Fr g V w wr∧LinkV V w V1) (fun _ wr=>rowLen wr g)
 case atStart=>exact ⟨vs,r,f,V,HR.out,HF.out,HV.out,R1.out,P1.out,O1.out,G1.out,LinkV.refl _ _⟩
 case round=>
  obtain ⟨vs1,r',fc,V1,hR',hfc,hv1,hr',hP',hO',hG',hK'⟩:=hrel;clear P1 G1 R1 HR O1;have P1:=qh hP';have O1:=qh hO';have G1:=qh hG';have R1:=qh hr';have HV1:=qh hv1;have HFC:=qh hfc;have LK1:=qh hK';have ZS:=qh (And.intro hG'.size Z1.out);have HLR:=qh hr'.len;obtain ⟨f2,rfl⟩:∃ k,fc=k+1:=⟨fc-1,by omega⟩;have HR:=qh hR';clear hP' hO' hG' hK' hr' hv1 hfc hR';have NLEN:=qh P1.out.len;have hl0:=drop_len r';have HLD:=qh hl0;clear hl0;by_cases h0:txt r'=[86,65,82]
  ·skip
   have hq:=HR.out;rw [sectsF,h0,if_neg (by decide),if_neg (by decide),if_pos rfl] at hq;have HR301:=qh hq;clear hq HR;have R302:=qh (R1.out.drop (txt_kind h0 (by decide)));go_wp2_with (go_at_call 76;fail)
   refine (take_yes P1.out R1.out (hyq R1 h0) (txt_kind h0 (by decide))).mono ?_;rintro e w4 ⟨rfl,hp,hg⟩;have P303:=qh hp;replace O1:=oqq hg ZS O1;clear P1;have G305:=qh (G1.out.step hg (.inl rfl));clear G1;have Z306:=hzz hg ZS;clear hg hp R1;generalize ((r').drop 1)=r307 at *;have hfx:20*r307.length+2≤f2:=(by have z:=Z306.out;have:=HFC.out;have:=HLD.out;have:=HLR.out;omega);have SA:=qh (section_any P303.out R302.out O1.out HV1.out 0 hfx);have FI:=qh (fin_lines f2 0 r307 vs1 hfx);clear hfx;go_wp2_with (go_at_call 77;fail)
   refine (SA.out).mono ?_;rintro e w5 hgv;rcases hp:linesF f2 0 r307 vs1 with ⟨vs5,r5⟩|⟨n9,t9⟩
   rotate_left
   ·rw [hp] at hgv
    obtain ⟨rfl,hb⟩:=hgv;have hq:=HR301.out;rw [hp] at hq;go_wp2;exact ⟨rfl,GvV.badOf hq.symm (G305.out.thenV hb LK1.out)⟩
   rw [hp] at hgv;obtain ⟨rfl,hr9,hb,V5,hlk,hP9,hO9⟩:=hgv;have hq:=HR301.out;rw [hp,bind_okE] at hq;have HR308:=qh hq;clear hq HR301;have P309:=qh hP9;have O310:=qh hO9;have R311:=qh hr9;have G312:=qh (G305.out.thenV hb LK1.out);have Z313:=qh (And.intro (show w.heap.size≤w5.heap.size from G312.out.size) Z306.out);clear hP9 hO9 hr9 hb P303 O1 R302 G305;have LK314:=qh (LK1.out.trans (qq Z306) hlk);clear hlk;have L5:Hid (r5.length<r307.length):=by
    have:=FI.out;rw [hp] at this;exact qh this
   have HV5:=qh (lines_len _ _ _ _ HV1.out hp);clear FI hp SA;go_wp2_with fail
   go_roundw
   case rel=>exact ⟨vs5,r5,f2,V5,HR308.out,(by have z:=Z313.out;have:=HLD.out;have:=L5.out;have:=HLR.out;have:=HFC.out;omega),HV5.out,R311.out,P309.out,O310.out,G312.out,LK314.out⟩
   case measure=>rw [NLEN.out,P309.out.len];have z:=Z313.out;have:=HLD.out;have:=L5.out;have:=HLR.out;have:=HFC.out;omega
  go_wp2_with (go_at_call 76;fail)
  refine (take_no P1.out R1.out (hnq R1 h0)).mono ?_;rintro e w4 ⟨rfl,hb⟩;have hg:=gr_of (row:=some wr.heap.size) hb;replace O1:=oqq hg ZS O1;replace P1:=pgq hg ZS P1;have G303:=qh (G1.out.step hg (.inr (.inr (qq ZS))));clear G1;have Z304:=hzz hg ZS;clear hg hb;by_cases h1:txt r'=[86,65,82,95,73,78,80,85,84]
  ·skip
   have hq:=HR.out;rw [sectsF,h1,if_pos rfl] at hq;have HR305:=qh hq;clear hq HR;have R306:=qh (R1.out.drop (txt_kind h1 (by decide)));go_wp2_with (go_at_call 76;fail)
   refine (take_yes P1.out R1.out (hyq R1 h1) (txt_kind h1 (by decide))).mono ?_;rintro e w5 ⟨rfl,hp,hg⟩;have P307:=qh hp;replace O1:=oqq hg Z304 O1;clear P1;have G309:=qh (G303.out.step hg (.inl rfl));clear G303;have Z310:=hzz hg Z304;clear hg hp R1;generalize ((r').drop 1)=r311 at *;have hfx:20*r311.length+2≤f2:=(by have z:=Z310.out;have:=HFC.out;have:=HLD.out;have:=HLR.out;omega);have SA:=qh (section_any P307.out R306.out O1.out HV1.out 1 hfx);have FI:=qh (fin_lines f2 1 r311 vs1 hfx);clear hfx;go_wp2_with (go_at_call 77;fail)
   refine (SA.out).mono ?_;rintro e w6 hgv;rcases hp:linesF f2 1 r311 vs1 with ⟨vs5,r5⟩|⟨n9,t9⟩
   rotate_left
   ·rw [hp] at hgv
    obtain ⟨rfl,hb⟩:=hgv;have hq:=HR305.out;rw [hp] at hq;go_wp2;exact ⟨rfl,GvV.badOf hq.symm (G309.out.thenV hb LK1.out)⟩
   rw [hp] at hgv;obtain ⟨rfl,hr9,hb,V5,hlk,hP9,hO9⟩:=hgv;have hq:=HR305.out;rw [hp,bind_okE] at hq;have HR312:=qh hq;clear hq HR305;have P313:=qh hP9;have O314:=qh hO9;have R315:=qh hr9;have G316:=qh (G309.out.thenV hb LK1.out);have Z317:=qh (And.intro (show w.heap.size≤w6.heap.size from G316.out.size) Z310.out);clear hP9 hO9 hr9 hb P307 O1 R306 G309;have LK318:=qh (LK1.out.trans (qq Z310) hlk);clear hlk;have L5:Hid (r5.length<r311.length):=by
    have:=FI.out;rw [hp] at this;exact qh this
   have HV5:=qh (lines_len _ _ _ _ HV1.out hp);clear FI hp SA;go_wp2_with fail
   go_roundw
   case rel=>exact ⟨vs5,r5,f2,V5,HR312.out,(by have z:=Z317.out;have:=HLD.out;have:=L5.out;have:=HLR.out;have:=HFC.out;omega),HV5.out,R315.out,P313.out,O314.out,G316.out,LK318.out⟩
   case measure=>rw [NLEN.out,P313.out.len];have z:=Z317.out;have:=HLD.out;have:=L5.out;have:=HLR.out;have:=HFC.out;omega
  go_wp2_with (go_at_call 76;fail)
  refine (take_no P1.out R1.out (hnq R1 h1)).mono ?_;rintro e w5 ⟨rfl,hb⟩;have hg:=gr_of (row:=some w4.heap.size) hb;replace O1:=oqq hg Z304 O1;replace P1:=pgq hg Z304 P1;have G307:=qh (G303.out.step hg (.inr (.inr (qq Z304))));clear G303;have Z308:=hzz hg Z304;clear hg hb;by_cases h2:txt r'=[86,65,82,95,79,85,84,80,85,84]
  ·skip
   have hq:=HR.out;rw [sectsF,h2,if_neg (by decide),if_pos rfl] at hq;have HR309:=qh hq;clear hq HR;have R310:=qh (R1.out.drop (txt_kind h2 (by decide)));go_wp2_with (go_at_call 76;fail)
   refine (take_yes P1.out R1.out (hyq R1 h2) (txt_kind h2 (by decide))).mono ?_;rintro e w6 ⟨rfl,hp,hg⟩;have P311:=qh hp;replace O1:=oqq hg Z308 O1;clear P1;have G313:=qh (G307.out.step hg (.inl rfl));clear G307;have Z314:=hzz hg Z308;clear hg hp R1;generalize ((r').drop 1)=r315 at *;have hfx:20*r315.length+2≤f2:=(by have z:=Z314.out;have:=HFC.out;have:=HLD.out;have:=HLR.out;omega);have SA:=qh (section_any P311.out R310.out O1.out HV1.out 2 hfx);have FI:=qh (fin_lines f2 2 r315 vs1 hfx);clear hfx;go_wp2_with (go_at_call 77;fail)
   refine (SA.out).mono ?_;rintro e w7 hgv;rcases hp:linesF f2 2 r315 vs1 with ⟨vs5,r5⟩|⟨n9,t9⟩
   rotate_left
   ·rw [hp] at hgv
    obtain ⟨rfl,hb⟩:=hgv;have hq:=HR309.out;rw [hp] at hq;go_wp2;exact ⟨rfl,GvV.badOf hq.symm (G313.out.thenV hb LK1.out)⟩
   rw [hp] at hgv;obtain ⟨rfl,hr9,hb,V5,hlk,hP9,hO9⟩:=hgv;have hq:=HR309.out;rw [hp,bind_okE] at hq;have HR316:=qh hq;clear hq HR309;have P317:=qh hP9;have O318:=qh hO9;have R319:=qh hr9;have G320:=qh (G313.out.thenV hb LK1.out);have Z321:=qh (And.intro (show w.heap.size≤w7.heap.size from G320.out.size) Z314.out);clear hP9 hO9 hr9 hb P311 O1 R310 G313;have LK322:=qh (LK1.out.trans (qq Z314) hlk);clear hlk;have L5:Hid (r5.length<r315.length):=by
    have:=FI.out;rw [hp] at this;exact qh this
   have HV5:=qh (lines_len _ _ _ _ HV1.out hp);clear FI hp SA;go_wp2_with fail
   go_roundw
   case rel=>exact ⟨vs5,r5,f2,V5,HR316.out,(by have z:=Z321.out;have:=HLD.out;have:=L5.out;have:=HLR.out;have:=HFC.out;omega),HV5.out,R319.out,P317.out,O318.out,G320.out,LK322.out⟩
   case measure=>rw [NLEN.out,P317.out.len];have z:=Z321.out;have:=HLD.out;have:=L5.out;have:=HLR.out;have:=HFC.out;omega
  go_wp2_with (go_at_call 76;fail)
  refine (take_no P1.out R1.out (hnq R1 h2)).mono ?_;rintro e w6 ⟨rfl,hb⟩;have hg:=gr_of (row:=some w5.heap.size) hb;replace O1:=oqq hg Z308 O1;replace P1:=pgq hg Z308 P1;have G311:=qh (G307.out.step hg (.inr (.inr (qq Z308))));clear G307;have Z312:=hzz hg Z308;clear hg hb;have hq:=HR.out;rw [sectsF,if_neg h1,if_neg h2,if_neg h0] at hq;have HR313:=qh hq;clear hq HR;go_wp2_with fail
  first|refine end0 rfl rfl ?_|refine ret0 rfl rfl ?_
  exact GvV.okOf HR313.out.symm R1.out G311.out LK1.out P1.out O1.out
end
end tr
end Go.Proofs.YtdefgghhkknnpaaGreatDoor

/- The landed parser's expressions: operation, unary, factor and expression, over what the parts give. No condition but what each line says. -/
import Derived.Test.YtdefgghhkknnpaaGreatDoorE16
set_option linter.unusedVariables false
set_option linter.unusedSimpArgs false
set_option maxRecDepth 100000
set_option maxHeartbeats 40000000
namespace Go.Proofs.YtdefgghhkknnpaaGreatDoor
namespace tr
open ChangeShapes WideShapes ChangeAt RowKit k rr tk
def opS (s:Str):Int×Nat:=if s=[79,82] then (21,0) else if s=[88,79,82] then (20,1) else if s=[65,78,68] then (19,2) else if s=[61] then (13,3) else if s=[60,62] then (14,3) else if s=[60] then (15,3) else if s=[62] then (16,3) else if s=[60,61] then (17,3) else if s=[62,61] then (18,3) else if s=[43] then (8,4) else if s=[45] then (9,4) else if s=[42] then (10,5) else if s=[47] then (11,5) else if s=[77,79,68] then (12,5) else (0,0)
theorem op_yes {m:Nat} (hm:m≤5) {s:Str} (h:opOf (m+1) s≠0):opS s=(opOf (m+1) s,m):=by
 match m,hm with
 | 0,_|1,_|2,_|3,_|4,_|5,_=>
  unfold opOf at h ⊢;simp only [Nat.zero_add,Nat.reduceAdd] at h ⊢;repeat' split
  all_goals first
   | (rename_i e;subst e;rfl)
   | simp_all
theorem op_no {m:Nat} (hm:m≤5) {s:Str} (h:opOf (m+1) s=0):(opS s).1=0∨(opS s).2≠m:=by
 by_cases e0:s=[79,82]
 ·subst e0;exact (by decide:∀ m:Fin 6,opOf (m.val+1) [79,82]=0→(opS [79,82]).1=0∨(opS [79,82]).2≠m.val) ⟨m,by omega⟩ h
 by_cases e1:s=[88,79,82]
 ·subst e1;exact (by decide:∀ m:Fin 6,opOf (m.val+1) [88,79,82]=0→(opS [88,79,82]).1=0∨(opS [88,79,82]).2≠m.val) ⟨m,by omega⟩ h
 by_cases e2:s=[65,78,68]
 ·subst e2;exact (by decide:∀ m:Fin 6,opOf (m.val+1) [65,78,68]=0→(opS [65,78,68]).1=0∨(opS [65,78,68]).2≠m.val) ⟨m,by omega⟩ h
 by_cases e3:s=[61]
 ·subst e3;exact (by decide:∀ m:Fin 6,opOf (m.val+1) [61]=0→(opS [61]).1=0∨(opS [61]).2≠m.val) ⟨m,by omega⟩ h
 by_cases e4:s=[60,62]
 ·subst e4;exact (by decide:∀ m:Fin 6,opOf (m.val+1) [60,62]=0→(opS [60,62]).1=0∨(opS [60,62]).2≠m.val) ⟨m,by omega⟩ h
 by_cases e5:s=[60]
 ·subst e5;exact (by decide:∀ m:Fin 6,opOf (m.val+1) [60]=0→(opS [60]).1=0∨(opS [60]).2≠m.val) ⟨m,by omega⟩ h
 by_cases e6:s=[62]
 ·subst e6;exact (by decide:∀ m:Fin 6,opOf (m.val+1) [62]=0→(opS [62]).1=0∨(opS [62]).2≠m.val) ⟨m,by omega⟩ h
 by_cases e7:s=[60,61]
 ·subst e7;exact (by decide:∀ m:Fin 6,opOf (m.val+1) [60,61]=0→(opS [60,61]).1=0∨(opS [60,61]).2≠m.val) ⟨m,by omega⟩ h
 by_cases e8:s=[62,61]
 ·subst e8;exact (by decide:∀ m:Fin 6,opOf (m.val+1) [62,61]=0→(opS [62,61]).1=0∨(opS [62,61]).2≠m.val) ⟨m,by omega⟩ h
 by_cases e9:s=[43]
 ·subst e9;exact (by decide:∀ m:Fin 6,opOf (m.val+1) [43]=0→(opS [43]).1=0∨(opS [43]).2≠m.val) ⟨m,by omega⟩ h
 by_cases e10:s=[45]
 ·subst e10;exact (by decide:∀ m:Fin 6,opOf (m.val+1) [45]=0→(opS [45]).1=0∨(opS [45]).2≠m.val) ⟨m,by omega⟩ h
 by_cases e11:s=[42]
 ·subst e11;exact (by decide:∀ m:Fin 6,opOf (m.val+1) [42]=0→(opS [42]).1=0∨(opS [42]).2≠m.val) ⟨m,by omega⟩ h
 by_cases e12:s=[47]
 ·subst e12;exact (by decide:∀ m:Fin 6,opOf (m.val+1) [47]=0→(opS [47]).1=0∨(opS [47]).2≠m.val) ⟨m,by omega⟩ h
 by_cases e13:s=[77,79,68]
 ·subst e13;exact (by decide:∀ m:Fin 6,opOf (m.val+1) [77,79,68]=0→(opS [77,79,68]).1=0∨(opS [77,79,68]).2≠m.val) ⟨m,by omega⟩ h
 left
 unfold opS;rw [if_neg e0,if_neg e1,if_neg e2,if_neg e3,if_neg e4,if_neg e5,if_neg e6,if_neg e7,if_neg e8,if_neg e9,if_neg e10,if_neg e11,if_neg e12,if_neg e13]
theorem txt_two {r:Sg} {s:Str} (h:txt r=s) (h0:s≠[]):(hd r).kind=2∨(hd r).kind=4:=by
 cases r with
 | nil=>exact absurd h.symm h0
 | cons t r=>
  have h:(if t.kind=2∨t.kind=4 then t.text else [])=s:=h;by_cases hk:t.kind=2∨t.kind=4
  ·exact hk
  ·rw [if_neg hk] at h
   exact absurd h.symm h0
theorem txt_none {r:Sg} (h:¬ ((hd r).kind=2∨(hd r).kind=4)):txt r=[]:=by
 cases r with
 | nil=>rfl
 | cons t r=>exact if_neg h
theorem op_head {m:Nat} (hm:m≤5) {r:Sg} (hr:RowOk r):(opOf (m+1) (txt r)=0→(opS (headS (hd r))).1=0∨(opS (headS (hd r))).2≠m)∧(opOf (m+1) (txt r)≠0→opS (headS (hd r))=(opOf (m+1) (txt r),m)∧(hd r).kind≠0):=by
 by_cases hk:(hd r).kind=2∨(hd r).kind=4
 ·have e:headS (hd r)=txt r:=by
   cases r with
   | nil=>exact hr.elim
   | cons t r=>
    have hk':t.kind=2∨t.kind=4:=hk
    show headS t=if t.kind=2∨t.kind=4 then t.text else []
    rw [if_pos hk'];unfold headS;rw [if_neg (by omega),if_neg (by omega),if_neg (by omega)]
  rw [e];exact ⟨op_no hm,fun h=>⟨op_yes hm h,by omega⟩⟩
 ·rw [txt_none hk]
  have h0:opOf (m+1) []=0:=by
   match m,hm with
   | 0,_|1,_|2,_|3,_|4,_|5,_=>rfl
  refine ⟨fun _=>.inl ?_,fun h=>absurd h0 h⟩;rcases hr.hd with h|⟨h,_⟩|h|⟨h,_⟩
  ·rw [((headS_kind hr).2.2).2 h];rfl
  ·exact absurd h hk
  ·rw [((headS_kind hr).1).2 h];rfl
  ·rw [((headS_kind hr).2.1).2 h];rfl
theorem operation_any (s:Str) (w:World):Calls Tryz.prog 185 #[sv s] w fun e w'=>e=.returned (.tuple #[.int .i64 (opS s).1,.int .i64 (opS s).2])∧w'=w:=by
 by_cases h0:s=[79,82]
 ·subst h0
  show Calls _ _ #[.string ⟨#[79,82]⟩] _ fun e w'=>e=.returned (.tuple #[.int .i64 21,.int .i64 0])∧_
  go_enter Tryz.func185,Tryz.ntmps185
  go_wp2;go_ret2
  exact ⟨rfl,rfl⟩
 by_cases h1:s=[88,79,82]
 ·subst h1
  show Calls _ _ #[.string ⟨#[88,79,82]⟩] _ fun e w'=>e=.returned (.tuple #[.int .i64 20,.int .i64 1])∧_
  go_enter Tryz.func185,Tryz.ntmps185
  go_wp2;go_ret2
  exact ⟨rfl,rfl⟩
 by_cases h2:s=[65,78,68]
 ·subst h2
  show Calls _ _ #[.string ⟨#[65,78,68]⟩] _ fun e w'=>e=.returned (.tuple #[.int .i64 19,.int .i64 2])∧_
  go_enter Tryz.func185,Tryz.ntmps185
  go_wp2;go_ret2
  exact ⟨rfl,rfl⟩
 by_cases h3:s=[61]
 ·subst h3
  show Calls _ _ #[.string ⟨#[61]⟩] _ fun e w'=>e=.returned (.tuple #[.int .i64 13,.int .i64 3])∧_
  go_enter Tryz.func185,Tryz.ntmps185
  go_wp2;go_ret2
  exact ⟨rfl,rfl⟩
 by_cases h4:s=[60,62]
 ·subst h4
  show Calls _ _ #[.string ⟨#[60,62]⟩] _ fun e w'=>e=.returned (.tuple #[.int .i64 14,.int .i64 3])∧_
  go_enter Tryz.func185,Tryz.ntmps185
  go_wp2;go_ret2
  exact ⟨rfl,rfl⟩
 by_cases h5:s=[60]
 ·subst h5
  show Calls _ _ #[.string ⟨#[60]⟩] _ fun e w'=>e=.returned (.tuple #[.int .i64 15,.int .i64 3])∧_
  go_enter Tryz.func185,Tryz.ntmps185
  go_wp2;go_ret2
  exact ⟨rfl,rfl⟩
 by_cases h6:s=[62]
 ·subst h6
  show Calls _ _ #[.string ⟨#[62]⟩] _ fun e w'=>e=.returned (.tuple #[.int .i64 16,.int .i64 3])∧_
  go_enter Tryz.func185,Tryz.ntmps185
  go_wp2;go_ret2
  exact ⟨rfl,rfl⟩
 by_cases h7:s=[60,61]
 ·subst h7
  show Calls _ _ #[.string ⟨#[60,61]⟩] _ fun e w'=>e=.returned (.tuple #[.int .i64 17,.int .i64 3])∧_
  go_enter Tryz.func185,Tryz.ntmps185
  go_wp2;go_ret2
  exact ⟨rfl,rfl⟩
 by_cases h8:s=[62,61]
 ·subst h8
  show Calls _ _ #[.string ⟨#[62,61]⟩] _ fun e w'=>e=.returned (.tuple #[.int .i64 18,.int .i64 3])∧_
  go_enter Tryz.func185,Tryz.ntmps185
  go_wp2;go_ret2
  exact ⟨rfl,rfl⟩
 by_cases h9:s=[43]
 ·subst h9
  show Calls _ _ #[.string ⟨#[43]⟩] _ fun e w'=>e=.returned (.tuple #[.int .i64 8,.int .i64 4])∧_
  go_enter Tryz.func185,Tryz.ntmps185
  go_wp2;go_ret2
  exact ⟨rfl,rfl⟩
 by_cases h10:s=[45]
 ·subst h10
  show Calls _ _ #[.string ⟨#[45]⟩] _ fun e w'=>e=.returned (.tuple #[.int .i64 9,.int .i64 4])∧_
  go_enter Tryz.func185,Tryz.ntmps185
  go_wp2;go_ret2
  exact ⟨rfl,rfl⟩
 by_cases h11:s=[42]
 ·subst h11
  show Calls _ _ #[.string ⟨#[42]⟩] _ fun e w'=>e=.returned (.tuple #[.int .i64 10,.int .i64 5])∧_
  go_enter Tryz.func185,Tryz.ntmps185
  go_wp2;go_ret2
  exact ⟨rfl,rfl⟩
 by_cases h12:s=[47]
 ·subst h12
  show Calls _ _ #[.string ⟨#[47]⟩] _ fun e w'=>e=.returned (.tuple #[.int .i64 11,.int .i64 5])∧_
  go_enter Tryz.func185,Tryz.ntmps185
  go_wp2;go_ret2
  exact ⟨rfl,rfl⟩
 by_cases h13:s=[77,79,68]
 ·subst h13
  show Calls _ _ #[.string ⟨#[77,79,68]⟩] _ fun e w'=>e=.returned (.tuple #[.int .i64 12,.int .i64 5])∧_
  go_enter Tryz.func185,Tryz.ntmps185
  go_wp2;go_ret2
  exact ⟨rfl,rfl⟩
 have e0:opS s=(0,0):=by unfold opS;rw [if_neg h0,if_neg h1,if_neg h2,if_neg h3,if_neg h4,if_neg h5,if_neg h6,if_neg h7,if_neg h8,if_neg h9,if_neg h10,if_neg h11,if_neg h12,if_neg h13]
 rw [e0];have q0:((⟨s.toArray⟩:ByteArray).toList==[79,82])=false:=by rw [ByteArray.toList_eq];exact beq_eq_false_iff_ne.2 h0
 have q1:((⟨s.toArray⟩:ByteArray).toList==[88,79,82])=false:=by rw [ByteArray.toList_eq];exact beq_eq_false_iff_ne.2 h1
 have q2:((⟨s.toArray⟩:ByteArray).toList==[65,78,68])=false:=by rw [ByteArray.toList_eq];exact beq_eq_false_iff_ne.2 h2
 have q3:((⟨s.toArray⟩:ByteArray).toList==[61])=false:=by rw [ByteArray.toList_eq];exact beq_eq_false_iff_ne.2 h3
 have q4:((⟨s.toArray⟩:ByteArray).toList==[60,62])=false:=by rw [ByteArray.toList_eq];exact beq_eq_false_iff_ne.2 h4
 have q5:((⟨s.toArray⟩:ByteArray).toList==[60])=false:=by rw [ByteArray.toList_eq];exact beq_eq_false_iff_ne.2 h5
 have q6:((⟨s.toArray⟩:ByteArray).toList==[62])=false:=by rw [ByteArray.toList_eq];exact beq_eq_false_iff_ne.2 h6
 have q7:((⟨s.toArray⟩:ByteArray).toList==[60,61])=false:=by rw [ByteArray.toList_eq];exact beq_eq_false_iff_ne.2 h7
 have q8:((⟨s.toArray⟩:ByteArray).toList==[62,61])=false:=by rw [ByteArray.toList_eq];exact beq_eq_false_iff_ne.2 h8
 have q9:((⟨s.toArray⟩:ByteArray).toList==[43])=false:=by rw [ByteArray.toList_eq];exact beq_eq_false_iff_ne.2 h9
 have q10:((⟨s.toArray⟩:ByteArray).toList==[45])=false:=by rw [ByteArray.toList_eq];exact beq_eq_false_iff_ne.2 h10
 have q11:((⟨s.toArray⟩:ByteArray).toList==[42])=false:=by rw [ByteArray.toList_eq];exact beq_eq_false_iff_ne.2 h11
 have q12:((⟨s.toArray⟩:ByteArray).toList==[47])=false:=by rw [ByteArray.toList_eq];exact beq_eq_false_iff_ne.2 h12
 have q13:((⟨s.toArray⟩:ByteArray).toList==[77,79,68])=false:=by rw [ByteArray.toList_eq];exact beq_eq_false_iff_ne.2 h13
 clear h0 h1 h2 h3 h4 h5 h6 h7 h8 h9 h10 h11 h12 h13 e0;unfold sv;generalize (⟨s.toArray⟩:ByteArray)=X at *;go_enter Tryz.func185,Tryz.ntmps185
 go_wp2;go_ret2
 exact ⟨rfl,rfl⟩
section
variable {r:Sg} {V:Value} {d g:Nat} {w:World}
theorem expression_any (hP:Par w g r V d) (hr:RowOk r) {p:Res Ex} (HO:∀ V g w,Par w g r V d→Calls Tryz.prog 179 #[.pointer (some ⟨g,0,none⟩),.int .i64 0] w (Gv g V d w GotE p)) :
  Calls Tryz.prog 162 #[.pointer (some ⟨g,0,none⟩)] w (Gv g V d w GotE p):=by
 have HOO:=qh HO;clear HO;have P1:=qh hP;have G1:=qh (gr_refl w (some g));have R1:=qh hr;have Z1:=qh (show g<w.heap.size from hP.lt);clear hP hr;go_enter Tryz.func162,Tryz.ntmps162
 go_upto_region 1 with (fail)
 obtain ⟨hb,hx,hz⟩:=znew w #[.int .i64 0,.int .i64 0,.string ⟨#[]⟩,.string ⟨#[]⟩,.slice none 0 0,.int .i64 0] 44;generalize w.alloc (.cells #[.int .i64 0,.int .i64 0,.string ⟨#[]⟩,.string ⟨#[]⟩,.slice none 0 0,.int .i64 0] 44)=w4 at *;have hg:=gr_of (row:=some w.heap.size) hb;have Z2:=qh (And.intro hz Z1.out);have X3:=qh hx;clear hb hx hz;replace P1:=pgq hg Z1 P1;replace G1:=hgq hg G1 Z1;have Z6:=hzz hg Z2;clear hg;go_wp2_with (go_at_call 179;fail)
 refine (HOO.out _ _ _ P1.out).mono ?_;rintro e w5 hgv;rcases p with ⟨x1,r1⟩|⟨n9,t9⟩
 rotate_left
 ·skip
  obtain ⟨rfl,hg⟩:=hgv;go_wp2;exact ⟨rfl,Gv.badOf rfl (gr_trans G1.out hg)⟩
 obtain ⟨⟨v9,rfl,hG⟩,hP9,hr9,hg⟩:=hgv;have P7:=qh hP9;have R8:=qh hr9;replace X3:=hbq hg Z6 X3;clear P1;replace G1:=gtr G1 hg;have Z11:=hzz hg Z6;clear hg hP9 hr9 R1;obtain ⟨h12,rfl,hE9⟩:=hG;have E13:=qh hE9;clear hE9;go_wp2_with ((with_reducible refine m_store X3.out 44 2 4 ?_ ?_ ?_ (eC h12) ?_ ?_ ?_ ?_ (eC_one _) ?_);rfl;rfl;rfl;rfl;rfl;rfl;kernel_rfl;intro w6 hx hg hs)
 have X15:=qh hx;have Z16:=qh (And.intro hs Z11.out);clear hx hs X3;replace E13:=heq hg Z11 E13;replace P7:=pgq hg Z11 P7;replace G1:=hgq hg G1 Z11;have Z20:=hzz hg Z16;clear hg;refine bodyPost_ret (k.results_cell rfl rfl (run_loadVar_mid _ w.heap.size 0 44 _ _ X15.out.range rfl rfl (by kernel_rfl))) rfl ?_;exact Gv.okOf rfl ⟨h12,rfl,(ExB.kept (more_nw (qq Z20) (qq Z20)) E13.out)⟩ P7.out R8.out G1.out
theorem ops_last (hP:Par w g r V d) (hr:RowOk r) {p:Res Ex} (HO:ECtr Tryz.prog 184 p d r) :
  Calls Tryz.prog 179 #[.pointer (some ⟨g,0,none⟩),.int .i64 6] w (Gv g V d w GotE p):=by
 have HOO:=qh HO;clear HO;have P1:=qh hP;have G1:=qh (gr_refl w (some g));have R1:=qh hr;have Z1:=qh (show g<w.heap.size from hP.lt);clear hP hr;go_enter Tryz.func179,Tryz.ntmps179
 go_upto_region 1 with (fail)
 obtain ⟨hb,hx,hz⟩:=znew w #[.int .i64 0,.int .i64 0,.string ⟨#[]⟩,.string ⟨#[]⟩,.slice none 0 0,.int .i64 0] 44;generalize w.alloc (.cells #[.int .i64 0,.int .i64 0,.string ⟨#[]⟩,.string ⟨#[]⟩,.slice none 0 0,.int .i64 0] 44)=w4 at *;have hg:=gr_of (row:=some w.heap.size) hb;have Z2:=qh (And.intro hz Z1.out);have X3:=qh hx;clear hb hx hz;replace P1:=pgq hg Z1 P1;replace G1:=hgq hg G1 Z1;have Z6:=hzz hg Z2;clear hg;go_wp2_with (go_at_call 184;fail)
 refine (HOO.out _ _ _ P1.out).mono ?_;rintro e w5 hgv;rcases p with ⟨x1,r1⟩|⟨n9,t9⟩
 rotate_left
 ·skip
  obtain ⟨rfl,hg⟩:=hgv;go_wp2;exact ⟨rfl,Gv.badOf rfl (gr_trans G1.out hg)⟩
 obtain ⟨⟨v9,rfl,hG⟩,hP9,hr9,hg⟩:=hgv;have P7:=qh hP9;have R8:=qh hr9;replace X3:=hbq hg Z6 X3;clear P1;replace G1:=gtr G1 hg;have Z11:=hzz hg Z6;clear hg hP9 hr9 R1;obtain ⟨h12,rfl,hE9⟩:=hG;have E13:=qh hE9;clear hE9;go_wp2_with ((with_reducible refine m_store X3.out 44 4 13 ?_ ?_ ?_ (eC h12) ?_ ?_ ?_ ?_ (eC_one _) ?_);rfl;rfl;rfl;rfl;rfl;rfl;kernel_rfl;intro w6 hx hg hs)
 have X15:=qh hx;have Z16:=qh (And.intro hs Z11.out);clear hx hs X3;replace E13:=heq hg Z11 E13;replace P7:=pgq hg Z11 P7;replace G1:=hgq hg G1 Z11;have Z20:=hzz hg Z16;clear hg;refine bodyPost_ret (k.results_cell rfl rfl (run_loadVar_mid _ w.heap.size 0 44 _ _ X15.out.range rfl rfl (by kernel_rfl))) rfl ?_;exact Gv.okOf rfl ⟨h12,rfl,(ExB.kept (more_nw (qq Z20) (qq Z20)) E13.out)⟩ P7.out R8.out G1.out
theorem unary_any (hP:Par w g r V d) (hr:RowOk r) (hd:d≤32) (f:Nat) (HU:(tr.hd r).kind≠0→d<32→ECtr Tryz.prog 184 (unaryF f (d+1) (r.drop 1)) (d+1) (r.drop 1)) (HF:txt r≠[45]→txt r≠[78,79,84]→ECtr Tryz.prog 187 (unaryF (f+1) d r) d r) :
  Calls Tryz.prog 184 #[.pointer (some ⟨g,0,none⟩)] w (Gv g V d w GotE (unaryF (f+1) d r)):=by
 obtain ⟨R,hR⟩:∃ R:Res Ex,(unaryF (f+1) d r)=R:=⟨_,rfl⟩;rw [hR];have HR:=qh hR;clear hR;have HUU:=qh HU;have HFF:=qh HF;clear HU HF;have P1:=qh hP;have G1:=qh (gr_refl w (some g));have R1:=qh hr;have Z1:=qh (show g<w.heap.size from hP.lt);clear hP hr;go_enter Tryz.func184,Tryz.ntmps184
 go_upto_region 1 with (fail)
 obtain ⟨hb,hx,hz⟩:=znew w #[.int .i64 0,.int .i64 0,.string ⟨#[]⟩,.string ⟨#[]⟩,.slice none 0 0,.int .i64 0] 44;generalize w.alloc (.cells #[.int .i64 0,.int .i64 0,.string ⟨#[]⟩,.string ⟨#[]⟩,.slice none 0 0,.int .i64 0] 44)=w4 at *;have hg:=gr_of (row:=some w.heap.size) hb;have Z2:=qh (And.intro hz Z1.out);have X3:=qh hx;clear hb hx hz;replace P1:=pgq hg Z1 P1;replace G1:=hgq hg G1 Z1;have Z6:=hzz hg Z2;clear hg;by_cases hw0:txt r=[45]
 ·skip
  have hq:=HR.out;rw [unaryF,if_pos (Or.inl hw0)] at hq;have HR7:=qh hq;clear hq HR;have hif:(if txt r=[45] then (6:Int) else 7)=6:=if_pos hw0;have hq:=HR7.out;rw [hif] at hq;have HR8:=qh hq;clear hq HR7 hif;have HA:=qh (head_any P1.out R1.out);unfold sv at HA;have q0:((⟨(headS (tr.hd (r))).toArray⟩:ByteArray).toList==[45])=true:=by rw [ByteArray.toList_eq];exact beq_iff_eq.2 (hyq R1 hw0)
  generalize (⟨(headS (tr.hd (r))).toArray⟩:ByteArray)=XH at *;go_wp2_with (go_at_call 72;fail)
  refine (HA.out).mono ?_;rintro e w5 ⟨rfl,hb⟩;have hg:=gr_of (row:=some w4.heap.size) hb;have X9:=hbq hg Z6 X3;clear X3;have P10:=pgq hg Z6 P1;clear P1;have G11:=hgq hg G1 Z6;clear G1;have Z12:=hzz hg Z6;clear hg hb HA;have HOF:=qh (show ∀ W,Par W g r V d→Calls Tryz.prog 186 #[.pointer (some ⟨g,0,none⟩),.int .i64 6] W (Gv g V d W GotE R) from fun W h=>HR8.out ▸ ofOne_any h R1.out hd (txt_kind hw0 (by decide)) 6 f (HUU.out (txt_kind hw0 (by decide))));clear HR8;go_wp2_with (go_at_call 186;fail)
  refine (HOF.out _ P10.out).mono ?_;rintro e w6 hgv;rcases R with ⟨x1,r1⟩|⟨n9,t9⟩
  rotate_left
  ·skip
   obtain ⟨rfl,hg⟩:=hgv;go_wp2;exact ⟨rfl,Gv.badOf rfl (gr_trans G11.out hg)⟩
  obtain ⟨⟨v9,rfl,hG⟩,hP9,hr9,hg⟩:=hgv;have P13:=qh hP9;have R14:=qh hr9;have X15:=hbq hg Z12 X9;clear X9 P10;have G16:=gtr G11 hg;clear G11;have Z17:=hzz hg Z12;clear hg hP9 hr9 R1;obtain ⟨h18,rfl,hE9⟩:=hG;have E19:=qh hE9;clear hE9;go_wp2_with ((with_reducible refine m_store X15.out 44 2 8 ?_ ?_ ?_ (eC h18) ?_ ?_ ?_ ?_ (eC_one _) ?_);rfl;rfl;rfl;rfl;rfl;rfl;kernel_rfl;intro w7 hx hg hs)
  have X21:=qh hx;have Z22:=qh (And.intro hs Z17.out);clear hx hs X15;have E23:=heq hg Z17 E19;clear E19;have P24:=pgq hg Z17 P13;clear P13;have G25:=hgq hg G16 Z17;clear G16;have Z26:=hzz hg Z22;clear hg;refine bodyPost_ret (k.results_cell rfl rfl (run_loadVar_mid _ w.heap.size 0 44 _ _ X21.out.range rfl rfl (by kernel_rfl))) rfl ?_;exact Gv.okOf rfl ⟨h18,rfl,(ExB.kept (more_nw (qq Z26) (qq Z26)) E23.out)⟩ P24.out R14.out G25.out
 by_cases hw1:txt r=[78,79,84]
 ·skip
  have hq:=HR.out;rw [unaryF,if_pos (Or.inr hw1)] at hq;have HR7:=qh hq;clear hq HR;have hif:(if txt r=[45] then (6:Int) else 7)=7:=if_neg hw0;have hq:=HR7.out;rw [hif] at hq;have HR8:=qh hq;clear hq HR7 hif;have HA:=qh (head_any P1.out R1.out);unfold sv at HA;have q0:((⟨(headS (tr.hd (r))).toArray⟩:ByteArray).toList==[45])=false:=by rw [ByteArray.toList_eq];exact beq_eq_false_iff_ne.2 (hnq R1 hw0)
  have q1:((⟨(headS (tr.hd (r))).toArray⟩:ByteArray).toList==[78,79,84])=true:=by rw [ByteArray.toList_eq];exact beq_iff_eq.2 (hyq R1 hw1)
  generalize (⟨(headS (tr.hd (r))).toArray⟩:ByteArray)=XH at *;go_wp2_with (go_at_call 72;fail)
  refine (HA.out).mono ?_;rintro e w5 ⟨rfl,hb⟩;have hg:=gr_of (row:=some w4.heap.size) hb;have X9:=hbq hg Z6 X3;clear X3;have P10:=pgq hg Z6 P1;clear P1;have G11:=hgq hg G1 Z6;clear G1;have Z12:=hzz hg Z6;clear hg hb HA;have HOF:=qh (show ∀ W,Par W g r V d→Calls Tryz.prog 186 #[.pointer (some ⟨g,0,none⟩),.int .i64 7] W (Gv g V d W GotE R) from fun W h=>HR8.out ▸ ofOne_any h R1.out hd (txt_kind hw1 (by decide)) 7 f (HUU.out (txt_kind hw1 (by decide))));clear HR8;go_wp2_with (go_at_call 186;fail)
  refine (HOF.out _ P10.out).mono ?_;rintro e w6 hgv;rcases R with ⟨x1,r1⟩|⟨n9,t9⟩
  rotate_left
  ·skip
   obtain ⟨rfl,hg⟩:=hgv;go_wp2;exact ⟨rfl,Gv.badOf rfl (gr_trans G11.out hg)⟩
  obtain ⟨⟨v9,rfl,hG⟩,hP9,hr9,hg⟩:=hgv;have P13:=qh hP9;have R14:=qh hr9;have X15:=hbq hg Z12 X9;clear X9 P10;have G16:=gtr G11 hg;clear G11;have Z17:=hzz hg Z12;clear hg hP9 hr9 R1;obtain ⟨h18,rfl,hE9⟩:=hG;have E19:=qh hE9;clear hE9;go_wp2_with ((with_reducible refine m_store X15.out 44 2 12 ?_ ?_ ?_ (eC h18) ?_ ?_ ?_ ?_ (eC_one _) ?_);rfl;rfl;rfl;rfl;rfl;rfl;kernel_rfl;intro w7 hx hg hs)
  have X21:=qh hx;have Z22:=qh (And.intro hs Z17.out);clear hx hs X15;have E23:=heq hg Z17 E19;clear E19;have P24:=pgq hg Z17 P13;clear P13;have G25:=hgq hg G16 Z17;clear G16;have Z26:=hzz hg Z22;clear hg;refine bodyPost_ret (k.results_cell rfl rfl (run_loadVar_mid _ w.heap.size 0 44 _ _ X21.out.range rfl rfl (by kernel_rfl))) rfl ?_;exact Gv.okOf rfl ⟨h18,rfl,(ExB.kept (more_nw (qq Z26) (qq Z26)) E23.out)⟩ P24.out R14.out G25.out
 have HFA:=qh (HFF.out hw0 hw1);have HA:=qh (head_any P1.out R1.out);unfold sv at HA;have q0:((⟨(headS (tr.hd (r))).toArray⟩:ByteArray).toList==[45])=false:=by rw [ByteArray.toList_eq];exact beq_eq_false_iff_ne.2 (hnq R1 hw0)
 have q1:((⟨(headS (tr.hd (r))).toArray⟩:ByteArray).toList==[78,79,84])=false:=by rw [ByteArray.toList_eq];exact beq_eq_false_iff_ne.2 (hnq R1 hw1)
 generalize (⟨(headS (tr.hd (r))).toArray⟩:ByteArray)=XH at *;go_wp2_with (go_at_call 72;fail)
 refine (HA.out).mono ?_;rintro e w5 ⟨rfl,hb⟩;have hg:=gr_of (row:=some w4.heap.size) hb;replace X3:=hbq hg Z6 X3;replace P1:=pgq hg Z6 P1;replace G1:=hgq hg G1 Z6;have Z10:=hzz hg Z6;clear hg hb HA;rw [HR.out] at HFA;clear HR;go_wp2_with (go_at_call 187;fail)
 refine (HFA.out _ _ _ P1.out).mono ?_;rintro e w6 hgv;rcases R with ⟨x1,r1⟩|⟨n9,t9⟩
 rotate_left
 ·skip
  obtain ⟨rfl,hg⟩:=hgv;go_wp2;exact ⟨rfl,Gv.badOf rfl (gr_trans G1.out hg)⟩
 obtain ⟨⟨v9,rfl,hG⟩,hP9,hr9,hg⟩:=hgv;have P11:=qh hP9;have R12:=qh hr9;replace X3:=hbq hg Z10 X3;clear P1;replace G1:=gtr G1 hg;have Z15:=hzz hg Z10;clear hg hP9 hr9 R1;obtain ⟨h16,rfl,hE9⟩:=hG;have E17:=qh hE9;clear hE9;go_wp2_with ((with_reducible refine m_store X3.out 44 2 14 ?_ ?_ ?_ (eC h16) ?_ ?_ ?_ ?_ (eC_one _) ?_);rfl;rfl;rfl;rfl;rfl;rfl;kernel_rfl;intro w7 hx hg hs)
 have X19:=qh hx;have Z20:=qh (And.intro hs Z15.out);clear hx hs X3;replace E17:=heq hg Z15 E17;replace P11:=pgq hg Z15 P11;replace G1:=hgq hg G1 Z15;have Z24:=hzz hg Z20;clear hg;refine bodyPost_ret (k.results_cell rfl rfl (run_loadVar_mid _ w.heap.size 0 44 _ _ X19.out.range rfl rfl (by kernel_rfl))) rfl ?_;exact Gv.okOf rfl ⟨h16,rfl,(ExB.kept (more_nw (qq Z24) (qq Z24)) E17.out)⟩ P11.out R12.out G1.out
theorem u_paren {f d:Nat} {r:Sg} (h:txt r=[40]):unaryF (f+1) d r=if 32<d+1 then fail 13 r else (exprF f (d+1) 1 (r.drop 1)).bind fun x r'=>(need [41] r').bind fun _ r'=>.ok x r':=by
 have hk:=txt_two h (by decide);rw [unaryF,h,if_neg (by decide),if_neg (by omega),if_neg (by decide),if_neg (by decide),if_pos rfl]
theorem u_name {f d:Nat} {r:Sg} (h:(hd r).kind=1):unaryF (f+1) d r=readF f d r:=by
 have ht:txt r=[]:=txt_none (by omega);rw [unaryF,ht,if_neg (by decide),if_neg (by omega),if_neg (by decide),if_neg (by decide),if_neg (by decide)];rfl
theorem u_true {f d:Nat} {r:Sg} (h:txt r=[84,82,85,69]):unaryF (f+1) d r=.ok (.mk 2 1 [] [] [] (hd r).line) (r.drop 1):=by
 have hk:=txt_two h (by decide);rw [unaryF,h,if_neg (by decide),if_neg (by omega),if_pos rfl]
theorem u_false {f d:Nat} {r:Sg} (h:txt r=[70,65,76,83,69]):unaryF (f+1) d r=.ok (.mk 2 0 [] [] [] (hd r).line) (r.drop 1):=by
 have hk:=txt_two h (by decide);rw [unaryF,h,if_neg (by decide),if_neg (by omega),if_neg (by decide),if_pos rfl]
theorem u_num {f d:Nat} {r:Sg} (h1:txt r≠[45]) (h2:txt r≠[78,79,84]) (h3:txt r≠[84,82,85,69]) (h4:txt r≠[70,65,76,83,69]) (h5:txt r≠[40]) (h6:(hd r).kind≠1):unaryF (f+1) d r=(want 3 r).bind fun t r'=>.ok (.mk 1 t.n [] [] [] (hd r).line) r':=by
 rw [unaryF,if_neg (fun h=>h.elim h1 h2),if_neg h3,if_neg h4,if_neg h5];unfold want;rw [if_neg h6];by_cases h:(hd r).kind=3
 ·rw [if_pos h,if_pos h];rfl
 ·rw [if_neg h,if_neg h];rfl
theorem factor_any (hP:Par w g r V d) (hr:RowOk r) (hd:d≤32) (hn1:txt r≠[45]) (hn2:txt r≠[78,79,84]) (f:Nat) (HE:txt r=[40]→RowOk (r.drop 1)→d<32→ECtr Tryz.prog 162 (exprF f (d+1) 1 (r.drop 1)) (d+1) (r.drop 1)) (HD:(tr.hd r).kind=1→ECtr Tryz.prog 188 (readF f d r) d r) :
  Calls Tryz.prog 187 #[.pointer (some ⟨g,0,none⟩)] w (Gv g V d w GotE (unaryF (f+1) d r)):=by
 obtain ⟨R,hR⟩:∃ R:Res Ex,(unaryF (f+1) d r)=R:=⟨_,rfl⟩;rw [hR];have HR:=qh hR;clear hR;have HEE:=qh HE;have HDD:=qh HD;have f3:=tok_f3 (tr.hd r);clear HE HD;have P1:=qh hP;have G1:=qh (gr_refl w (some g));have R1:=qh hr;have Z1:=qh (show g<w.heap.size from hP.lt);clear hP hr;go_enter Tryz.func187,Tryz.ntmps187
 go_upto_region 1 with (fail)
 obtain ⟨hb,hx,hz⟩:=znew w #[.int .i64 0,.int .i64 0,.string ⟨#[]⟩,.string ⟨#[]⟩,.slice none 0 0,.int .i64 0] 44;generalize w.alloc (.cells #[.int .i64 0,.int .i64 0,.string ⟨#[]⟩,.string ⟨#[]⟩,.slice none 0 0,.int .i64 0] 44)=w4 at *;have hg:=gr_of (row:=some w.heap.size) hb;have Z2:=qh (And.intro hz Z1.out);have X3:=qh hx;clear hb hx hz;replace P1:=pgq hg Z1 P1;replace G1:=hgq hg G1 Z1;have Z6:=hzz hg Z2;clear hg;go_wp2_with (go_at_call 74;fail)
 refine (next_any P1.out R1.out).mono ?_;rintro e w5 ⟨rfl,hb⟩;have hg:=gr_of (row:=some w4.heap.size) hb;replace X3:=hbq hg Z6 X3;replace P1:=pgq hg Z6 P1;replace G1:=hgq hg G1 Z6;have Z10:=hzz hg Z6;clear hg hb;by_cases hw0:txt r=[40]
 ·skip
  have hq:=HR.out;rw [u_paren hw0] at hq;have HR11:=qh hq;clear hq HR;have HA:=qh (head_any P1.out R1.out);unfold sv at HA;have q0:((⟨(headS (tr.hd (r))).toArray⟩:ByteArray).toList==[40])=true:=by rw [ByteArray.toList_eq];exact beq_iff_eq.2 (hyq R1 hw0)
  generalize (⟨(headS (tr.hd (r))).toArray⟩:ByteArray)=XH at *;go_wp2_with (go_at_call 72;fail)
  refine (HA.out).mono ?_;rintro e w6 ⟨rfl,hb⟩;have hg:=gr_of (row:=some w5.heap.size) hb;have X12:=hbq hg Z10 X3;clear X3;have P13:=pgq hg Z10 P1;clear P1;have G14:=hgq hg G1 Z10;clear G1;have Z15:=hzz hg Z10;clear hg hb HA;have HIN:=qh (show ∀ W,Par W g r V d→Calls Tryz.prog 178 #[.pointer (some ⟨g,0,none⟩),sv [40],sv [41]] W (Gv g V d W GotE R) from fun W h=>HR11.out ▸ inner_any h R1.out hd (hyq R1 hw0) (txt_kind hw0 (by decide)) (by decide) f (HEE.out hw0 (R1.out.drop (txt_kind hw0 (by decide)))));clear HR11;go_wp2_with (go_at_call 178;fail)
  refine (HIN.out _ P13.out).mono ?_;rintro e w7 hgv;rcases R with ⟨x1,r1⟩|⟨n9,t9⟩
  rotate_left
  ·skip
   obtain ⟨rfl,hg⟩:=hgv;go_wp2;exact ⟨rfl,Gv.badOf rfl (gr_trans G14.out hg)⟩
  obtain ⟨⟨v9,rfl,hG⟩,hP9,hr9,hg⟩:=hgv;have P16:=qh hP9;have R17:=qh hr9;have X18:=hbq hg Z15 X12;clear X12 P13;have G19:=gtr G14 hg;clear G14;have Z20:=hzz hg Z15;clear hg hP9 hr9 R1;obtain ⟨h21,rfl,hE9⟩:=hG;have E22:=qh hE9;clear hE9;go_wp2_with ((with_reducible refine m_store X18.out 44 2 12 ?_ ?_ ?_ (eC h21) ?_ ?_ ?_ ?_ (eC_one _) ?_);rfl;rfl;rfl;rfl;rfl;rfl;kernel_rfl;intro w8 hx hg hs)
  have X24:=qh hx;have Z25:=qh (And.intro hs Z20.out);clear hx hs X18;have E26:=heq hg Z20 E22;clear E22;have P27:=pgq hg Z20 P16;clear P16;have G28:=hgq hg G19 Z20;clear G19;have Z29:=hzz hg Z25;clear hg;refine bodyPost_ret (k.results_cell rfl rfl (run_loadVar_mid _ w.heap.size 0 44 _ _ X24.out.range rfl rfl (by kernel_rfl))) rfl ?_;exact Gv.okOf rfl ⟨h21,rfl,(ExB.kept (more_nw (qq Z29) (qq Z29)) E26.out)⟩ P27.out R17.out G28.out
 by_cases hw1:(tr.hd r).kind=1
 ·skip
  have hq:=HR.out;rw [u_name hw1] at hq;have HR11:=qh hq;clear hq HR;have HRE:=HDD.out hw1;rw [HR11.out] at HRE;have HIN:=qh HRE;clear HRE;have hh:=((headS_kind R1.out).1).2 hw1;have HA:=qh (head_any P1.out R1.out);unfold sv at HA;have q0:((⟨(headS (tr.hd (r))).toArray⟩:ByteArray).toList==[40])=false:=by rw [ByteArray.toList_eq];exact (by rw [hh];rfl)
  have q1:((⟨(headS (tr.hd (r))).toArray⟩:ByteArray).toList==[110,97,109,101])=true:=by rw [ByteArray.toList_eq];exact (by rw [hh];rfl)
  generalize (⟨(headS (tr.hd (r))).toArray⟩:ByteArray)=XH at *;go_wp2_with (go_at_call 72;fail)
  refine (HA.out).mono ?_;rintro e w6 ⟨rfl,hb⟩;have hg:=gr_of (row:=some w5.heap.size) hb;have X12:=hbq hg Z10 X3;clear X3;have P13:=pgq hg Z10 P1;clear P1;have G14:=hgq hg G1 Z10;clear G1;have Z15:=hzz hg Z10;clear hg hb HA hh HR11;go_wp2_with (go_at_call 188;fail)
  refine (HIN.out _ _ _ P13.out).mono ?_;rintro e w7 hgv;rcases R with ⟨x1,r1⟩|⟨n9,t9⟩
  rotate_left
  ·skip
   obtain ⟨rfl,hg⟩:=hgv;go_wp2;exact ⟨rfl,Gv.badOf rfl (gr_trans G14.out hg)⟩
  obtain ⟨⟨v9,rfl,hG⟩,hP9,hr9,hg⟩:=hgv;have P16:=qh hP9;have R17:=qh hr9;have X18:=hbq hg Z15 X12;clear X12 P13;have G19:=gtr G14 hg;clear G14;have Z20:=hzz hg Z15;clear hg hP9 hr9 R1;obtain ⟨h21,rfl,hE9⟩:=hG;have E22:=qh hE9;clear hE9;go_wp2_with ((with_reducible refine m_store X18.out 44 2 16 ?_ ?_ ?_ (eC h21) ?_ ?_ ?_ ?_ (eC_one _) ?_);rfl;rfl;rfl;rfl;rfl;rfl;kernel_rfl;intro w8 hx hg hs)
  have X24:=qh hx;have Z25:=qh (And.intro hs Z20.out);clear hx hs X18;have E26:=heq hg Z20 E22;clear E22;have P27:=pgq hg Z20 P16;clear P16;have G28:=hgq hg G19 Z20;clear G19;have Z29:=hzz hg Z25;clear hg;refine bodyPost_ret (k.results_cell rfl rfl (run_loadVar_mid _ w.heap.size 0 44 _ _ X24.out.range rfl rfl (by kernel_rfl))) rfl ?_;exact Gv.okOf rfl ⟨h21,rfl,(ExB.kept (more_nw (qq Z29) (qq Z29)) E26.out)⟩ P27.out R17.out G28.out
 by_cases hw2:txt r=[84,82,85,69]
 ·skip
  have hq:=HR.out;rw [u_true hw2] at hq;have HR11:=qh hq;clear hq HR;have HA:=qh (head_any P1.out R1.out);unfold sv at HA;have q0:((⟨(headS (tr.hd (r))).toArray⟩:ByteArray).toList==[40])=false:=by rw [ByteArray.toList_eq];exact beq_eq_false_iff_ne.2 (hnq R1 hw0)
  have q1:((⟨(headS (tr.hd (r))).toArray⟩:ByteArray).toList==[110,97,109,101])=false:=by rw [ByteArray.toList_eq];exact beq_eq_false_iff_ne.2 (mt ((headS_kind R1.out).1).1 hw1)
  have q2:((⟨(headS (tr.hd (r))).toArray⟩:ByteArray).toList==[84,82,85,69])=true:=by rw [ByteArray.toList_eq];exact beq_iff_eq.2 (hyq R1 hw2)
  generalize (⟨(headS (tr.hd (r))).toArray⟩:ByteArray)=XH at *;go_wp2_with (go_at_call 72;fail)
  refine (HA.out).mono ?_;rintro e w6 ⟨rfl,hb⟩;have hg:=gr_of (row:=some w5.heap.size) hb;have X12:=hbq hg Z10 X3;clear X3;have P13:=pgq hg Z10 P1;clear P1;have G14:=hgq hg G1 Z10;clear G1;have Z15:=hzz hg Z10;clear hg hb HA;have R16:=qh (R1.out.drop (txt_kind hw2 (by decide)));go_wp2_with (go_at_call 75;fail)
  refine (pass_any P13.out R1.out).mono ?_;rintro e w7 ⟨rfl,hp,hg⟩;have P17:=qh hp;have X18:=hbq hg Z15 X12;clear X12 P13;have G19:=gtr G14 hg;clear G14;have Z20:=hzz hg Z15;clear hg hp R1;generalize (r.drop 1)=r21 at *;go_wp2_with ((with_reducible refine m_store X18.out 44 2 22 ?_ ?_ ?_ (eC ⟨2,1,[],[],⟨none,0,0⟩,(tr.hd r).line⟩) ?_ ?_ ?_ ?_ (eC_one _) ?_);rfl;rfl;rfl;rfl;rfl;rfl;kernel_rfl;intro w8 hx hg hs)
  have X22:=qh hx;have Z23:=qh (And.intro hs Z20.out);clear hx hs X18;have P24:=pgq hg Z20 P17;clear P17;have G25:=hgq hg G19 Z20;clear G19;have Z26:=hzz hg Z23;clear hg;refine bodyPost_ret (k.results_cell rfl rfl (run_loadVar_mid _ w.heap.size 0 44 _ _ X22.out.range rfl rfl (by kernel_rfl))) rfl ?_;exact Gv.okOf HR11.out.symm ⟨⟨2,1,[],[],⟨none,0,0⟩,(tr.hd r).line⟩,rfl,rfl,rfl,rfl,rfl,rfl,[],RB.none_ _ _ _ _,rfl⟩ P24.out R16.out G25.out
 by_cases hw3:txt r=[70,65,76,83,69]
 ·skip
  have hq:=HR.out;rw [u_false hw3] at hq;have HR11:=qh hq;clear hq HR;have HA:=qh (head_any P1.out R1.out);unfold sv at HA;have q0:((⟨(headS (tr.hd (r))).toArray⟩:ByteArray).toList==[40])=false:=by rw [ByteArray.toList_eq];exact beq_eq_false_iff_ne.2 (hnq R1 hw0)
  have q1:((⟨(headS (tr.hd (r))).toArray⟩:ByteArray).toList==[110,97,109,101])=false:=by rw [ByteArray.toList_eq];exact beq_eq_false_iff_ne.2 (mt ((headS_kind R1.out).1).1 hw1)
  have q2:((⟨(headS (tr.hd (r))).toArray⟩:ByteArray).toList==[84,82,85,69])=false:=by rw [ByteArray.toList_eq];exact beq_eq_false_iff_ne.2 (hnq R1 hw2)
  have q3:((⟨(headS (tr.hd (r))).toArray⟩:ByteArray).toList==[70,65,76,83,69])=true:=by rw [ByteArray.toList_eq];exact beq_iff_eq.2 (hyq R1 hw3)
  generalize (⟨(headS (tr.hd (r))).toArray⟩:ByteArray)=XH at *;go_wp2_with (go_at_call 72;fail)
  refine (HA.out).mono ?_;rintro e w6 ⟨rfl,hb⟩;have hg:=gr_of (row:=some w5.heap.size) hb;have X12:=hbq hg Z10 X3;clear X3;have P13:=pgq hg Z10 P1;clear P1;have G14:=hgq hg G1 Z10;clear G1;have Z15:=hzz hg Z10;clear hg hb HA;have R16:=qh (R1.out.drop (txt_kind hw3 (by decide)));go_wp2_with (go_at_call 75;fail)
  refine (pass_any P13.out R1.out).mono ?_;rintro e w7 ⟨rfl,hp,hg⟩;have P17:=qh hp;have X18:=hbq hg Z15 X12;clear X12 P13;have G19:=gtr G14 hg;clear G14;have Z20:=hzz hg Z15;clear hg hp R1;generalize (r.drop 1)=r21 at *;go_wp2_with ((with_reducible refine m_store X18.out 44 2 28 ?_ ?_ ?_ (eC ⟨2,0,[],[],⟨none,0,0⟩,(tr.hd r).line⟩) ?_ ?_ ?_ ?_ (eC_one _) ?_);rfl;rfl;rfl;rfl;rfl;rfl;kernel_rfl;intro w8 hx hg hs)
  have X22:=qh hx;have Z23:=qh (And.intro hs Z20.out);clear hx hs X18;have P24:=pgq hg Z20 P17;clear P17;have G25:=hgq hg G19 Z20;clear G19;have Z26:=hzz hg Z23;clear hg;refine bodyPost_ret (k.results_cell rfl rfl (run_loadVar_mid _ w.heap.size 0 44 _ _ X22.out.range rfl rfl (by kernel_rfl))) rfl ?_;exact Gv.okOf HR11.out.symm ⟨⟨2,0,[],[],⟨none,0,0⟩,(tr.hd r).line⟩,rfl,rfl,rfl,rfl,rfl,rfl,[],RB.none_ _ _ _ _,rfl⟩ P24.out R16.out G25.out
 have hq:=HR.out;rw [u_num hn1 hn2 hw2 hw3 hw0 hw1] at hq;have HR11:=qh hq;clear hq HR;have HA:=qh (head_any P1.out R1.out);unfold sv at HA;have q0:((⟨(headS (tr.hd (r))).toArray⟩:ByteArray).toList==[40])=false:=by rw [ByteArray.toList_eq];exact beq_eq_false_iff_ne.2 (hnq R1 hw0)
 have q1:((⟨(headS (tr.hd (r))).toArray⟩:ByteArray).toList==[110,97,109,101])=false:=by rw [ByteArray.toList_eq];exact beq_eq_false_iff_ne.2 (mt ((headS_kind R1.out).1).1 hw1)
 have q2:((⟨(headS (tr.hd (r))).toArray⟩:ByteArray).toList==[84,82,85,69])=false:=by rw [ByteArray.toList_eq];exact beq_eq_false_iff_ne.2 (hnq R1 hw2)
 have q3:((⟨(headS (tr.hd (r))).toArray⟩:ByteArray).toList==[70,65,76,83,69])=false:=by rw [ByteArray.toList_eq];exact beq_eq_false_iff_ne.2 (hnq R1 hw3)
 generalize (⟨(headS (tr.hd (r))).toArray⟩:ByteArray)=XH at *;go_wp2_with (go_at_call 72;fail)
 refine (HA.out).mono ?_;rintro e w6 ⟨rfl,hb⟩;have hg:=gr_of (row:=some w5.heap.size) hb;have X12:=hbq hg Z10 X3;clear X3;have P13:=pgq hg Z10 P1;clear P1;have G14:=hgq hg G1 Z10;clear G1;have Z15:=hzz hg Z10;clear hg hb HA;have f2:=tok_f2 (tr.hd r);by_cases hs16:(tr.hd (r)).kind=3
 rotate_left
 ·have hq:=HR11.out
  rw [want_badE hs16] at hq;go_wp2_with (go_at_call 47;fail)
  refine (need_no P13.out R1.out (mt (headS_kind R1.out).2.1.1 hs16)).mono ?_;rintro e w7 ⟨rfl,hb⟩;go_wp2;exact ⟨rfl,Gv.badOf hq.symm (gr_trans G14.out (gr_of hb))⟩
 have hq:=HR11.out;rw [want_okE hs16,bind_okE] at hq;have HR17:=qh hq;clear hq HR11;have R18:=qh (R1.out.drop (by rw [hs16];decide));go_wp2_with (go_at_call 47;fail)
 refine (need_yes P13.out R1.out ((headS_kind R1.out).2.1.2 hs16)).mono ?_;rintro e w7 ⟨rfl,hp,hg⟩;have P19:=qh hp;replace X12:=hbq hg Z15 X12;clear P13;replace G14:=gtr G14 hg;have Z22:=hzz hg Z15;clear hg hp R1;generalize ((r).drop 1)=r23 at *;go_wp2_with ((with_reducible refine m_store X12.out 44 2 33 ?_ ?_ ?_ (eC ⟨1,(tr.hd (r)).n,[],[],⟨none,0,0⟩,(tr.hd r).line⟩) ?_ ?_ ?_ ?_ (eC_one _) ?_);rfl;rfl;rfl;rfl;rfl;rfl;kernel_rfl;intro w8 hx hg hs)
 have X24:=qh hx;have Z25:=qh (And.intro hs Z22.out);clear hx hs X12;replace P19:=pgq hg Z22 P19;replace G14:=hgq hg G14 Z22;have Z28:=hzz hg Z25;clear hg;refine bodyPost_ret (k.results_cell rfl rfl (run_loadVar_mid _ w.heap.size 0 44 _ _ X24.out.range rfl rfl (by kernel_rfl))) rfl ?_;exact Gv.okOf HR17.out.symm ⟨⟨1,(tr.hd (r)).n,[],[],⟨none,0,0⟩,(tr.hd r).line⟩,rfl,rfl,rfl,rfl,rfl,rfl,[],RB.none_ _ _ _ _,rfl⟩ P19.out R18.out G14.out
end
def OCtr (P:Program) (fn:FuncId) (m:Nat) (p:Res Ex) (d:Nat) (r:Sg):Prop:=∀ (V:Value) (g:Nat) (w:World),Par w g r V d→Calls P fn #[.pointer (some ⟨g,0,none⟩),.int .i64 m] w (Gv g V d w GotE p)
section
variable {r:Sg} {V:Value} {d g:Nat} {w:World}
theorem ops_any (hP:Par w g r V d) (hr:RowOk r) {m f:Nat} (hm:m≤5) (hf:20*r.length+9-m≤f+1) (H:∀ f' r',f'≤f→r'.length≤r.length→RowOk r'→20*r'.length+8-m≤f'→OCtr Tryz.prog 179 (m+1) (exprF f' d (m+2) r') d r') :
  Calls Tryz.prog 179 #[.pointer (some ⟨g,0,none⟩),.int .i64 m] w (Gv g V d w GotE (exprF (f+1) d (m+1) r)):=by
 obtain ⟨R,hR⟩:∃ R:Res Ex,exprF (f+1) d (m+1) r=R:=⟨_,rfl⟩;rw [hR];rw [exprF,if_neg (by omega)] at hR;have HR:=qh hR;clear hR;have HH:=qh H;have HF:=qh hf;have HM:=qh hm;have HL:=qh hr.len;have w1:IntKind.i64.wrap ((m:Int)+1)=((m+1:Nat):Int):=by rw [IntKind.wrap_i64];omega
 have e6:((m:Int)==6)=false:=by rw [beq_eq_false_iff_ne];omega
 clear H hf hm;have P1:=qh hP;have G1:=qh (gr_refl w (some g));have R1:=qh hr;have Z1:=qh (show g<w.heap.size from hP.lt);clear hP hr;go_enter Tryz.func179,Tryz.ntmps179
 go_upto_region 3 with (fail)
 obtain ⟨hb,hx,hz⟩:=znew w #[.int .i64 0,.int .i64 0,.string ⟨#[]⟩,.string ⟨#[]⟩,.slice none 0 0,.int .i64 0] 44;generalize w.alloc (.cells #[.int .i64 0,.int .i64 0,.string ⟨#[]⟩,.string ⟨#[]⟩,.slice none 0 0,.int .i64 0] 44)=w4 at *;have hg:=gr_of (row:=some w.heap.size) hb;have Z2:=qh (And.intro hz Z1.out);have X3:=qh hx;clear hb hx hz;have P4:=pgq hg Z1 P1;clear P1;have G5:=hgq hg G1 Z1;clear G1;have Z6:=hzz hg Z2;clear hg;have HC:=qh (HH.out f r (Nat.le_refl _) (Nat.le_refl _) R1.out (by have:=HF.out;omega));have FI:=qh ((finE f).1 d (m+2) r (by have:=HM.out;omega) (by have:=HF.out;omega));go_wp2_with (go_at_call 179;fail)
 refine (HC.out _ _ _ P4.out).mono ?_;rintro e w5 hgv;rcases hp:exprF f d (m+2) r with ⟨x1,r1⟩|⟨n9,t9⟩
 rotate_left
 ·rw [hp] at hgv
  obtain ⟨rfl,hg⟩:=hgv;have hq:=HR.out;rw [hp] at hq;go_wp2;exact ⟨rfl,Gv.badOf hq.symm (gr_trans G5.out hg)⟩
 rw [hp] at hgv;obtain ⟨⟨v9,rfl,hG⟩,hP9,hr9,hg⟩:=hgv;have hq:=HR.out;rw [hp] at hq;try rw [bind_okE] at hq
 have HR7:=qh hq;clear hq HR;have P8:=qh hP9;have R9:=qh hr9;replace X3:=hbq hg Z6 X3;clear P4;replace G5:=gtr G5 hg;have Z12:=hzz hg Z6;clear hg hP9 hr9 R1;obtain ⟨h13,rfl,hE9⟩:=hG;have E14:=qh hE9;clear hE9;have L1:Hid (r1.length<r.length):=by
  have:=FI.out;rw [hp] at this;exact qh this
 clear FI HC hp;go_upto_region 4 with ((with_reducible refine m_new 44 5 17 ?_ ?_ ?_ (eC h13) ?_ ?_ ?_ ?_ (eC_one _) ?_);rfl;rfl;rfl;rfl;rfl;rfl;kernel_rfl;intro w6 hx hb hz)
 have hg:=gr_of (row:=some w5.heap.size) hb;have Z16:=qh (And.intro hz Z12.out);have X17:=qh hx;clear hb hx hz;replace X3:=hbq hg Z12 X3;replace E14:=heq hg Z12 E14;replace P8:=pgq hg Z12 P8;replace G5:=hgq hg G5 Z12;have Z22:=hzz hg Z16;clear hg;go_loopw [6] (fun _ wr=>∃ (fc:Nat) (x:Ex) (r':Sg) (h:EH),moreF fc d (m+1) x r'=R∧fc≤f∧20*r'.length+15≤fc∧r'.length≤r.length∧RowOk r'∧Par wr g r' V d∧Box wr w.heap.size 0 [.int .i64 0,.int .i64 0,.string ⟨#[]⟩,.string ⟨#[]⟩,.slice none 0 0,.int .i64 0]∧Box wr w5.heap.size 0 (eC h)∧ExB wr (Nx (w.heap.size+1) wr.heap.size w5.heap.size) x h∧w.grownBy wr (some g)∧w5.heap.size<wr.heap.size) (fun _ wr=>rowLen wr g)
 case atStart=>exact ⟨f,x1,r1,h13,HR7.out,Nat.le_refl _,(by have z:=Z22.out;have:=L1.out;have:=HF.out;have:=HM.out;omega),(by have z:=Z22.out;have:=L1.out;omega),R9.out,P8.out,X3.out,X17.out,(ExB.kept (nw_nx (qq Z22) (qq Z22) (qq Z22)) E14.out),G5.out,(qq Z22)⟩
 case round=>
  obtain ⟨fc,x,r',h,hR',hfc,hful,hlen,hr',hP',hX0,hX1,hE',hG',hS'⟩:=hrel;clear P8 G5 R9 HR7 L1 X3 X17 E14;obtain ⟨f2,rfl⟩:∃ k,fc=k+1:=⟨fc-1,by omega⟩;rw [moreF] at hR';have HR:=qh hR';have P1:=qh hP';have X1:=qh hX0;have X2:=qh hX1;have E1:=qh hE';have G1:=qh hG';have R1:=qh hr';have ZS:=qh (And.intro hS' Z22.out);have HFU:=qh hful;have HLE:=qh hlen;have HFC:=qh hfc;clear hR' hP' hX0 hX1 hE' hG' hr' hS' hful hlen hfc;have NLEN:=qh P1.out.len;rcases hop:opS (headS (tr.hd r')) with ⟨o9,l9⟩
  have OH:=op_head HM.out R1.out;rw [hop] at OH;simp only at OH;have OPA:=qh fun W=>operation_any (headS (tr.hd r')) W
  rw [hop] at OPA;clear hop;have HA:=qh (head_any P1.out R1.out);unfold sv at HA OPA;generalize (⟨(headS (tr.hd r')).toArray⟩:ByteArray)=XH at *;by_cases hz:opOf (m+1) (txt r')=0
  ·skip
   have hq:=HR.out;rw [if_pos hz] at hq;have HR201:=qh hq;clear hq HR;have OS:=qh (OH.1 hz);clear OH hz;go_wp2_with (go_at_call 72;fail)
   refine (HA.out).mono ?_;rintro e w7 ⟨rfl,hb⟩;have hg:=gr_of (row:=some wr.heap.size) hb;have X202:=hbq hg ZS X1;clear X1;have X203:=hbq hg ZS X2;clear X2;have E204:=qh (ExB.kept (kept_nx hg (qq ZS) (qq ZS)) E1.out);clear E1;have P205:=pgq hg ZS P1;clear P1;have G206:=hgq hg G1 ZS;clear G1;have Z207:=hzz hg ZS;clear hg hb;go_wp2_with (go_at_call 185;fail)
   refine (OPA.out _).mono ?_;rintro e w8 ⟨rfl,rfl⟩;rcases OS.out with ho|hl
   ·skip
    subst ho;go_wp2_with (first|((with_reducible refine m_load X203.out 44 5 ?_ ?_ ?_ ?_ ?_ ?_);rfl;rfl;rfl;rfl;kernel_rfl)|((with_reducible refine m_store X202.out 44 4 31 ?_ ?_ ?_ (eC h) ?_ ?_ ?_ ?_ (eC_one _) ?_);rfl;rfl;rfl;rfl;rfl;rfl;kernel_rfl;intro w9 hx hg hs))
    have X208:=qh hx;have Z209:=qh (And.intro hs Z207.out);clear hx hs X202;have X210:=hbq hg Z207 X203;clear X203;have E211:=qh (ExB.kept (kept_nx hg (qq Z207) (qq Z207)) E204.out);clear E204;have P212:=pgq hg Z207 P205;clear P205;have G213:=hgq hg G206 Z207;clear G206;have Z214:=hzz hg Z209;clear hg;refine bodyPost_ret (k.results_cell rfl rfl (run_loadVar_mid _ w.heap.size 0 44 _ _ X208.out.range rfl rfl (by kernel_rfl))) rfl ?_;exact Gv.okOf HR201.out.symm ⟨h,rfl,(ExB.kept (more_nx (qq Z214) (qq Z214)) E211.out)⟩ P212.out R1.out G213.out
   ·by_cases ho:o9=0
    ·skip
     subst ho;go_wp2_with (first|((with_reducible refine m_load X203.out 44 5 ?_ ?_ ?_ ?_ ?_ ?_);rfl;rfl;rfl;rfl;kernel_rfl)|((with_reducible refine m_store X202.out 44 4 31 ?_ ?_ ?_ (eC h) ?_ ?_ ?_ ?_ (eC_one _) ?_);rfl;rfl;rfl;rfl;rfl;rfl;kernel_rfl;intro w9 hx hg hs))
     have X208:=qh hx;have Z209:=qh (And.intro hs Z207.out);clear hx hs X202;have X210:=hbq hg Z207 X203;clear X203;have E211:=qh (ExB.kept (kept_nx hg (qq Z207) (qq Z207)) E204.out);clear E204;have P212:=pgq hg Z207 P205;clear P205;have G213:=hgq hg G206 Z207;clear G206;have Z214:=hzz hg Z209;clear hg;refine bodyPost_ret (k.results_cell rfl rfl (run_loadVar_mid _ w.heap.size 0 44 _ _ X208.out.range rfl rfl (by kernel_rfl))) rfl ?_;exact Gv.okOf HR201.out.symm ⟨h,rfl,(ExB.kept (more_nx (qq Z214) (qq Z214)) E211.out)⟩ P212.out R1.out G213.out
    ·skip
     have q2:((l9:Int) != (m:Int))=true:=by rw [bne_iff_ne];have hl:l9≠m:=hl;omega
     have q1:(o9==0)=false:=by rw [beq_eq_false_iff_ne];exact ho
     clear ho hl;go_wp2_with (first|((with_reducible refine m_load X203.out 44 5 ?_ ?_ ?_ ?_ ?_ ?_);rfl;rfl;rfl;rfl;kernel_rfl)|((with_reducible refine m_store X202.out 44 4 31 ?_ ?_ ?_ (eC h) ?_ ?_ ?_ ?_ (eC_one _) ?_);rfl;rfl;rfl;rfl;rfl;rfl;kernel_rfl;intro w9 hx hg hs))
     have X208:=qh hx;have Z209:=qh (And.intro hs Z207.out);clear hx hs X202;have X210:=hbq hg Z207 X203;clear X203;have E211:=qh (ExB.kept (kept_nx hg (qq Z207) (qq Z207)) E204.out);clear E204;have P212:=pgq hg Z207 P205;clear P205;have G213:=hgq hg G206 Z207;clear G206;have Z214:=hzz hg Z209;clear hg;refine bodyPost_ret (k.results_cell rfl rfl (run_loadVar_mid _ w.heap.size 0 44 _ _ X208.out.range rfl rfl (by kernel_rfl))) rfl ?_;exact Gv.okOf HR201.out.symm ⟨h,rfl,(ExB.kept (more_nx (qq Z214) (qq Z214)) E211.out)⟩ P212.out R1.out G213.out
  ·skip
   obtain ⟨he,hkd⟩:=OH.2 hz;have he1:o9=opOf (m+1) (txt r'):=congrArg Prod.fst he;obtain rfl:l9=m:=congrArg Prod.snd he;have hq:=HR.out;rw [if_neg hz,←he1] at hq;have HR201:=qh hq;clear hq HR;have q1:(o9==0)=false:=by rw [beq_eq_false_iff_ne,he1];exact hz
   have q2:((l9:Int) != (l9:Int))=false:=by simp
   have HK:=qh hkd;clear OH hz he he1 hkd;go_wp2_with (go_at_call 72;fail)
   refine (HA.out).mono ?_;rintro e w7 ⟨rfl,hb⟩;have hg:=gr_of (row:=some wr.heap.size) hb;have X202:=hbq hg ZS X1;clear X1;have X203:=hbq hg ZS X2;clear X2;have E204:=qh (ExB.kept (kept_nx hg (qq ZS) (qq ZS)) E1.out);clear E1;have P205:=pgq hg ZS P1;clear P1;have G206:=hgq hg G1 ZS;clear G1;have Z207:=hzz hg ZS;clear hg hb;go_wp2_with (go_at_call 185;fail)
   refine (OPA.out _).mono ?_;rintro e w8 ⟨rfl,rfl⟩;have f3:=tok_f3 (tr.hd r');have R208:=qh (R1.out.drop HK.out);have hl0:(r'.drop 1).length=r'.length-1:=by simp
   have HLR:=qh R1.out.len;go_wp2_with (go_at_call 75;fail)
   refine (pass_any P205.out R1.out).mono ?_;rintro e w9 ⟨rfl,hp,hg⟩;have P209:=qh hp;have X210:=hbq hg Z207 X202;clear X202;replace X203:=hbq hg Z207 X203;have E212:=qh (ExB.kept (kept_nx hg (qq Z207) (qq Z207)) E204.out);clear E204 P205;have G213:=gtr G206 hg;clear G206;have Z214:=hzz hg Z207;clear hg hp R1;have HL0:=qh hl0;clear hl0;generalize (r'.drop 1)=r215 at *;have HC:=qh (HH.out f2 r215 (by have:=HFC.out;omega) (by have:=HL0.out;have:=HLE.out;omega) R208.out (by have:=HFU.out;have:=HL0.out;have:=HLR.out;omega));have FI:=qh ((finE f2).1 d (l9+2) r215 (by have:=HM.out;omega) (by have:=HFU.out;have:=HL0.out;have:=HLR.out;omega));go_wp2_with (go_at_call 179;fail)
   refine (HC.out _ _ _ P209.out).mono ?_;rintro e w10 hgv;rcases hp:exprF f2 d (l9+2) r215 with ⟨x2,r3⟩|⟨n9,t9⟩
   rotate_left
   ·rw [hp] at hgv
    obtain ⟨rfl,hg⟩:=hgv;have hq:=HR201.out;rw [hp] at hq;go_wp2;exact ⟨rfl,Gv.badOf hq.symm (gr_trans G213.out hg)⟩
   rw [hp] at hgv;obtain ⟨⟨v9,rfl,hG⟩,hP9,hr9,hg⟩:=hgv;have hq:=HR201.out;rw [hp] at hq;try rw [bind_okE] at hq
   have HR216:=qh hq;clear hq HR201;have P217:=qh hP9;have R218:=qh hr9;replace X210:=hbq hg Z214 X210;replace X203:=hbq hg Z214 X203;have E221:=qh (ExB.kept (kept_nx hg (qq Z214) (qq Z214)) E212.out);clear E212 P209;replace G213:=gtr G213 hg;have Z223:=hzz hg Z214;clear hg hP9 hr9 R208;obtain ⟨h224,rfl,hE9⟩:=hG;have E225:=qh hE9;clear hE9;have L2:Hid (r3.length<r215.length):=by
    have:=FI.out;rw [hp] at this;exact qh this
   clear FI HC hp;go_upto_region 9 with ((with_reducible refine m_new 44 9 38 ?_ ?_ ?_ (eC h224) ?_ ?_ ?_ ?_ (eC_one _) ?_);rfl;rfl;rfl;rfl;rfl;rfl;kernel_rfl;intro w11 hx hb hz)
   have hg:=gr_of (row:=some w10.heap.size) hb;have Z227:=qh (And.intro hz Z223.out);have X228:=qh hx;clear hb hx hz;replace X210:=hbq hg Z223 X210;replace X203:=hbq hg Z223 X203;have E231:=qh (ExB.kept (kept_nx hg (qq Z223) (qq Z223)) E221.out);clear E221;replace E225:=heq hg Z223 E225;replace P217:=pgq hg Z223 P217;replace G213:=hgq hg G213 Z223;have Z235:=hzz hg Z227;clear hg;go_upto_region 10 with (first|((with_reducible refine m_load X203.out 44 5 ?_ ?_ ?_ ?_ ?_ ?_);rfl;rfl;rfl;rfl;kernel_rfl)|((with_reducible refine m_load X228.out 44 9 ?_ ?_ ?_ ?_ ?_ ?_);rfl;rfl;rfl;rfl;kernel_rfl)|((with_reducible refine m_slice2 eC_len h h224 42 44 40 41 (.agg (eC h).toArray) (.agg (eC h224).toArray) (eC h++eC h224).toArray ?_ ?_ ?_ ?_ (bs_E2 h h224) ?_ ?_);rfl;rfl;rfl;rfl;rfl;intro w12 hrb hb1 hz1;have HXL:=qh (X203.out.below hb1 (qq Z235));have HRB:=qh hrb;have HB1:=qh hb1;have HZ1:=qh hz1;clear hrb hb1 hz1)|((with_reducible refine m_store HXL.out 44 5 44 ?_ ?_ ?_ (eC ⟨o9,0,[],[],⟨some ⟨w11.heap.size,0,none⟩,2,2⟩,(tr.hd r').line⟩) ?_ ?_ ?_ ?_ (eC_one _) ?_);rfl;rfl;rfl;rfl;rfl;rfl;kernel_rfl;intro w13 hx hg hs))
   have HXX:=qh hx;have HGG:=qh hg;have HSS:=qh hs;clear hx hg hs;have hg:=gr_of (row:=some w11.heap.size) HB1.out;have Z236:=qh (And.intro HZ1.out Z235.out);have E237:=HRB;clear HZ1 HRB;replace X210:=hbq hg Z235 X210;replace X203:=hbq hg Z235 X203;replace X228:=hbq hg Z235 X228;have E241:=qh (ExB.kept (kept_nx hg (qq Z235) (qq Z235)) E231.out);clear E231;replace E225:=heq hg Z235 E225;replace P217:=pgq hg Z235 P217;replace G213:=hgq hg G213 Z235;have Z245:=hzz hg Z236;clear hg HB1;have hx:=HXX.out;have hg:=HGG.out;have hs:=HSS.out;clear HXX HGG HSS;have X247:=qh hx;have Z248:=qh (And.intro hs Z245.out);clear hx hs X203;replace X210:=hbq hg Z245 X210;replace X228:=hbq hg Z245 X228;have E251:=qh (ExB.kept (kept_nx hg (qq Z245) (qq Z245)) E241.out);clear E241;replace E225:=heq hg Z245 E225;replace E237:=hrq hg Z245 E237;replace P217:=pgq hg Z245 P217;replace G213:=hgq hg G213 Z245;have Z256:=hzz hg Z248;clear hg;by_cases hm3:l9=3
   ·skip
    have q3:((l9:Int)==3)=true:=by rw [beq_iff_eq];omega
    have hq:=HR216.out;rw [if_pos (by omega)] at hq;have HR257:=qh hq;clear hq HR216;go_wp2_with (first|((with_reducible refine m_load X247.out 44 5 ?_ ?_ ?_ ?_ ?_ ?_);rfl;rfl;rfl;rfl;kernel_rfl)|((with_reducible refine m_store X210.out 44 4 47 ?_ ?_ ?_ (eC ⟨o9,0,[],[],⟨some ⟨w11.heap.size,0,none⟩,2,2⟩,(tr.hd r').line⟩) ?_ ?_ ?_ ?_ (eC_one _) ?_);rfl;rfl;rfl;rfl;rfl;rfl;kernel_rfl;intro w14 hx hg hs))
    have X258:=qh hx;have Z259:=qh (And.intro hs Z256.out);clear hx hs X210;replace X247:=hbq hg Z256 X247;replace X228:=hbq hg Z256 X228;have E262:=qh (ExB.kept (kept_nx hg (qq Z256) (qq Z256)) E251.out);clear E251;replace E225:=heq hg Z256 E225;replace E237:=hrq hg Z256 E237;replace P217:=pgq hg Z256 P217;replace G213:=hgq hg G213 Z256;have Z267:=hzz hg Z259;clear hg;refine bodyPost_ret (k.results_cell rfl rfl (run_loadVar_mid _ w.heap.size 0 44 _ _ X258.out.range rfl rfl (by kernel_rfl))) rfl ?_;exact Gv.okOf HR257.out.symm ⟨⟨o9,0,[],[],⟨some ⟨w11.heap.size,0,none⟩,2,2⟩,(tr.hd r').line⟩,rfl,⟨rfl,rfl,rfl,rfl,rfl,[h,h224],(RB.kept (more_nw (qq Z267) (qq Z267)) E237.out),h,[h224],rfl,(ExB.kept (more_nx (qq Z267) (qq Z267)) E262.out),h224,[],rfl,(ExB.kept (more_nw (qq Z267) (qq Z267)) E225.out),rfl⟩⟩ P217.out R218.out G213.out
   ·skip
    have q3:((l9:Int)==3)=false:=by rw [beq_eq_false_iff_ne];omega
    have hq:=HR216.out;rw [if_neg (by omega)] at hq;have HR257:=qh hq;clear hq HR216;go_wp2_with fail
    go_roundw
    case rel=>exact ⟨f2,_,r3,⟨o9,0,[],[],⟨some ⟨w11.heap.size,0,none⟩,2,2⟩,(tr.hd r').line⟩,HR257.out,(by have z:=Z256.out;have:=HFC.out;omega),(by have z:=Z256.out;have:=HFU.out;have:=L2.out;have:=HL0.out;have:=HLR.out;omega),(by have z:=Z256.out;have:=L2.out;have:=HL0.out;have:=HLE.out;omega),R218.out,P217.out,X210.out,X247.out,⟨rfl,rfl,rfl,rfl,rfl,[h,h224],(RB.kept (nw_nx (qq Z256) (qq Z256) (qq Z256)) E237.out),h,[h224],rfl,(ExB.kept (nx_nx (qq Z256) (qq Z256)) E251.out),h224,[],rfl,(ExB.kept (nw_nx (qq Z256) (qq Z256) (qq Z256)) E225.out),rfl⟩,G213.out,(qq Z256)⟩
    case measure=>rw [NLEN.out,P217.out.len];have z:=Z256.out;have:=L2.out;have:=HL0.out;have:=HLR.out;omega
end
theorem drop_len (r:Sg):(r.drop 1).length=r.length-1:=by simp
theorem index_gets {f d:Nat} (hd:d≤32) {r:Sg} (hr:RowOk r) (hw:txt r=[91]) (hf:1≤f) (HE:∀ f',f'+1=f→d<32→ECtr Tryz.prog 162 (exprF f' (d+1) 1 (r.drop 1)) (d+1) (r.drop 1)) :
    ICtr Tryz.prog 178 [91] [93] (indexF f d r) d r:=by
  obtain ⟨f',rfl⟩:∃ k,f=k+1:=⟨f-1,by omega⟩;intro V g w hP;rw [indexF];exact inner_any hP hr hd ((headS_txt hr (by decide) (by decide) (by decide) (by decide)).2 hw) (txt_kind hw (by decide)) (by decide) f' (HE f' rfl)
theorem expr_all:∀ F:Nat,(∀ m d r,m≤6→d≤32→RowOk r→20*r.length+9-m≤F→OCtr Tryz.prog 179 m (exprF F d (m+1) r) d r)∧(∀ d r,d≤32→RowOk r→20*r.length+2≤F→ECtr Tryz.prog 184 (unaryF F d r) d r):=by
  intro F;induction F using Nat.strongRecOn with
  | _ F ih=>
  match F,ih with
  | 0,ih=>exact ⟨fun m d r _ _ hr hf=>by have:=hr.len;omega,fun d r _ hr hf=>by have:=hr.len;omega⟩
  | f+1,ih=>
    have EX:∀ f' d r,f'<f+1→d≤32→RowOk r→20*r.length+9≤f'→ECtr Tryz.prog 162 (exprF f' d 1 r) d r:=fun f' d r h1 h2 h3 h4 V g w hP=>expression_any hP h3 ((ih f' h1).1 0 d r (by omega) h2 h3 (by omega))
    refine ⟨fun m d r hm hd hr hf=>?_,fun d r hd hr hf=>?_⟩
    · intro V g w hP
      by_cases h6:m=6
      · subst h6
        rw [exprF,if_pos rfl];exact ops_last hP hr ((ih f (by omega)).2 d r hd hr (by omega))
      · exact ops_any hP hr (by omega) hf fun f' r' h1 h2 h3 h4=>(ih f' (by omega)).1 (m+1) d r' (by omega) hd h3 (by omega)
    · intro V g w hP
      have hl:=drop_len r;have hr0:=hr.len;refine unary_any hP hr hd f (fun hk h32=>(ih f (by omega)).2 (d+1) (r.drop 1) (by omega) (hr.drop hk) (by omega)) fun hn1 hn2=>?_
      intro V g w hP;refine factor_any hP hr hd hn1 hn2 f (fun hw hr1 h32=>EX f (d+1) (r.drop 1) (by omega) (by omega) hr1 (by have:=hr1.len;omega)) fun hk=>?_
      intro V g w hP;refine read_any hP hr f ?_;intro V g w hP;refine place_any hP hr f fun hw hr1=>index_gets hd hr1 hw (by omega) fun f' hf' h32=>?_
      have hr2:=hr1.drop (txt_kind hw (by decide));have hl2:=drop_len (r.drop 1);have hl1:=hr1.len;exact EX f' (d+1) _ (by omega) (by omega) hr2 (by omega)
theorem expr_gets {f d:Nat} {r:Sg} (hd:d≤32) (hr:RowOk r) (hf:20*r.length+9≤f):ECtr Tryz.prog 162 (expr f d r) d r:=
  fun V g w hP=>expression_any hP hr ((expr_all f).1 0 d r (by omega) hd hr (by omega))
theorem place_gets {f d:Nat} {r:Sg} (hd:d≤32) (hr:RowOk r) (hf:20*r.length+9≤f):ECtr Tryz.prog 160 (placeF f d r) d r:=fun V g w hP=>by
  have hl:=drop_len r;have hr0:=hr.len;refine place_any hP hr f fun hw hr1=>index_gets hd hr1 hw (by omega) fun f' hf' h32=>?_
  have hr2:=hr1.drop (txt_kind hw (by decide));have hl2:=drop_len (r.drop 1);have hl1:=hr1.len;exact expr_gets (by omega) hr2 (by omega)
theorem bind_bind {α β γ:Type} (p:Res α) (f:α→Sg→Res β) (k:β→Sg→Res γ):(p.bind f).bind k=p.bind fun x r=>(f x r).bind k:=by
  cases p<;>rfl
def Ny (a b:Nat) (O:List Value) (q:Nat):Prop:=a≤q∧q<b∧∀ v∈O,v.ownBlock≠some q
theorem kept_ny {w w':World} {q a b:Nat} {O:List Value} (hg:w.grownBy w' (some q)) (h1:q<a∨b≤q∨∃ v∈O,v.ownBlock=some q) (h2:b≤w.heap.size):Kept w w' (Ny a b O) (Ny a b O):=
  Kept.grown hg fun k hk=>⟨by have:=hk.2.1;omega,fun e=>by
    injection e with e
    subst e;rcases h1 with h|h|⟨v,hv,h⟩
    · have:=hk.1;omega
    · have:=hk.2.1;omega
    · exact hk.2.2 v hv h,hk⟩
theorem bkq {w w':World} {q a b:Nat} {O:List Value} {L:List (List St)} {H:List Sl} (hg:w.grownBy w' (some q)) (h1:q<a∨b≤q) (h2:b≤w.heap.size) (h:Hid (BlksB w (Ny a b O) L H)):Hid (BlksB w' (Ny a b O) L H):=BlksB.kept (kept_ny hg (Or.imp_right Or.inl h1) h2) h.out
theorem lkq {w w':World} {q a b:Nat} {O:List Value} {L:List (List Int)} {H:List Sl} (hg:w.grownBy w' (some q)) (h1:q<a∨b≤q) (h2:b≤w.heap.size) (h:Hid (LabsB w (Ny a b O) L H)):Hid (LabsB w' (Ny a b O) L H):=LabsB.kept (kept_ny hg (Or.imp_right Or.inl h1) h2) h.out
theorem ekq {w w':World} {q a b:Nat} {O:List Value} {L:List Ex} {H:List EH} (hg:w.grownBy w' (some q)) (h1:q<a∨b≤q) (h2:b≤w.heap.size) (h:Hid (ExsB w (Ny a b O) L H)):Hid (ExsB w' (Ny a b O) L H):=ExsB.kept (kept_ny hg (Or.imp_right Or.inl h1) h2) h.out
theorem bkz {p:Prop} {w w':World} {q a b:Nat} {O:List Value} {L:List (List St)} {H:List Sl} (hg:w.grownBy w' (some q)) (z:Hid p) (h:Hid (BlksB w (Ny a b O) L H)) (h1:p→q<a∨b≤q:=by intro z;omega) (h2:p→b≤w.heap.size:=by intro z;omega):Hid (BlksB w' (Ny a b O) L H):=bkq hg (h1 z) (h2 z) h
theorem lkz {p:Prop} {w w':World} {q a b:Nat} {O:List Value} {L:List (List Int)} {H:List Sl} (hg:w.grownBy w' (some q)) (z:Hid p) (h:Hid (LabsB w (Ny a b O) L H)) (h1:p→q<a∨b≤q:=by intro z;omega) (h2:p→b≤w.heap.size:=by intro z;omega):Hid (LabsB w' (Ny a b O) L H):=lkq hg (h1 z) (h2 z) h
theorem ekz {p:Prop} {w w':World} {q a b:Nat} {O:List Value} {L:List Ex} {H:List EH} (hg:w.grownBy w' (some q)) (z:Hid p) (h:Hid (ExsB w (Ny a b O) L H)) (h1:p→q<a∨b≤q:=by intro z;omega) (h2:p→b≤w.heap.size:=by intro z;omega):Hid (ExsB w' (Ny a b O) L H):=ekq hg (h1 z) (h2 z) h
theorem skq {w w':World} {q a b:Nat} {O:List Value} {L:List St} {H:List SH} (hg:w.grownBy w' (some q)) (h1:q<a∨b≤q) (h2:b≤w.heap.size) (h:Hid (StsB w (Ny a b O) L H)):Hid (StsB w' (Ny a b O) L H):=StsB.kept (kept_ny hg (Or.imp_right Or.inl h1) h2) h.out
theorem ny_ny {w:World} {a b a' b':Nat} {O O':List Value} (h3:a'≤a) (h4:b≤b') (h:∀ v∈O',∀ q,v.ownBlock=some q→q<b→∃ u∈O,u.ownBlock=some q):Kept w w (Ny a b O) (Ny a' b' O'):=
  Kept.more fun k hk=>⟨by have:=hk.1;omega,by have:=hk.2.1;omega,fun v hv e=>by
    obtain ⟨u,hu,e2⟩:=h v hv k e hk.2.1;exact hk.2.2 u hu e2⟩
theorem nw_ny {w:World} {a b a' b':Nat} {O:List Value} (h3:a'≤a) (h4:b≤b') (h:∀ v∈O,∀ q,v.ownBlock=some q→q<a∨b≤q):Kept w w (Nw a b) (Ny a' b' O):=
  Kept.more fun k hk=>⟨by have:=hk.1;omega,by have:=hk.2;omega,fun v hv e=>by
    have:=h v hv k e;have:=hk.1;have:=hk.2;omega⟩
theorem ny_nw {w:World} {a b a' b':Nat} {O:List Value} (h3:a'≤a) (h4:b≤b'):Kept w w (Ny a b O) (Nw a' b'):=Kept.more fun k hk=>⟨by have:=hk.1;omega,by have:=hk.2.1;omega⟩
section
variable {α:Type} {enc:α→List Value} {z:Nat} {t:TypeId} {w w':World} {base:Nat} {v:Value} {L:List α}
theorem Ow.lt (h:Ow enc z t w base v L) {q:Nat} (e:v.ownBlock=some q):base≤q∧q<w.heap.size:=World.ownsRow.lt h q e
theorem grow_q (h:Ow enc z t w base v L) (hb:base≤w.heap.size) (hg:w.grownBy w' v.ownBlock):∃ q,base≤q∧(v.ownBlock=some q∨w.heap.size≤q)∧w.grownBy w' (some q):=by
  cases e:v.ownBlock with
  | none=>
    rw [e] at hg;exact ⟨w.heap.size,hb,.inr (Nat.le_refl _),hg.os,hg.tape,hg.output,hg.size,fun k hk _=>hg.block k hk (by simp)⟩
  | some q=>
    rw [e] at hg;exact ⟨q,(Ow.lt h e).1,.inl rfl,hg⟩
theorem Ow.sl (hz:∀ x,(enc x).length=z) (h:Ow enc z t w base v L):∃ s:Sl,v=s.v:=by
  obtain ⟨A,cap,e,_⟩:=h.form hz;exact ⟨⟨A,L.length,cap⟩,e⟩
theorem Ow.gr {q:Nat} (h:Ow enc z t w base v L) (hg:w.grownBy w' (some q)) (hq:q<base∨w.heap.size≤q):Ow enc z t w' base v L:=by
  refine h.kept hg ?_;cases e:v.ownBlock with
  | none=>exact .inl rfl
  | some b=>
    refine .inr fun e2=>?_
    injection e2 with e2
    have:=Ow.lt h e;omega
theorem ogr {q:Nat} (hg:w.grownBy w' (some q)) (hq:q<base∨w.heap.size≤q) (h:Hid (Ow enc z t w base v L)):Hid (Ow enc z t w' base v L):=Ow.gr h.out hg hq
theorem oqq {p:Prop} {q:Nat} (hg:w.grownBy w' (some q)) (y:Hid p) (h:Hid (Ow enc z t w base v L)) (hq:p→q<base∨w.heap.size≤q:=by intro y;omega):Hid (Ow enc z t w' base v L):=ogr hg (hq y) h
theorem Ow.apart {β:Type} {enc2:β→List Value} {z2:Nat} {t2:TypeId} {base2:Nat} {v2:Value} {L2:List β} (h:Ow enc z t w base v L) (h2:Ow enc2 z2 t2 w base2 v2 L2) (ht:t≠t2) {q:Nat} (e:v.ownBlock=some q):v2.ownBlock≠some q:=by
  intro e2;rcases h.2 with ⟨rfl,_⟩|⟨g,cap,cur,rfl,_,hg,_⟩
  · simp [Value.ownBlock] at e
  · rcases h2.2 with ⟨rfl,_⟩|⟨g2,cap2,cur2,rfl,_,hg2,_⟩
    · simp [Value.ownBlock] at e2
    · have e:g=q:=by simpa [Value.ownBlock] using e
      have e2:g2=q:=by simpa [Value.ownBlock] using e2
      subst e e2;rw [hg] at hg2;simp only [Option.some.injEq,Obj.cells.injEq] at hg2;exact ht hg2.2.1
theorem Ow.gr2 {q:Nat} (h:Ow enc z t w base v L) (hg:w.grownBy w' (some q)) (hq:v.ownBlock≠some q):Ow enc z t w' base v L:=by
  refine h.kept hg ?_;cases e:v.ownBlock with
  | none=>exact .inl rfl
  | some b=>exact .inr (e ▸ hq)
end
theorem rb_own {α:Type} {enc:α→List Value} {z:Nat} (hz:∀ x,(enc x).length=z) {w:World} {t:TypeId} {base:Nat} {s:Sl} {L:List α} {a b:Nat} (h:Ow enc z t w base s.v L) (ha:a≤base) (hb:w.heap.size≤b):RB enc z w (Nw a b) s L:=by
  obtain ⟨s',e,hr⟩:=RB.own hz h (S:=Nw a b) (fun q e=>by have:=Ow.lt h e;exact ⟨by omega,by omega⟩);obtain ⟨A,l,c⟩:=s;obtain ⟨A',l',c'⟩:=s';simp only [Sl.v,Value.slice.injEq] at e;obtain ⟨rfl,rfl,rfl⟩:=e;exact hr
end tr
end Go.Proofs.YtdefgghhkknnpaaGreatDoor

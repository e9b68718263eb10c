/- The landed checks of variables and of programs. Conditions: the library's variable MaxLen holds some number; a program has at most 2^40 parts. The landed text of a variable's type. Conditions: the variable is such that a text could give; the table of powers of ten lies as the library lays it. The landed writer's program, and Show. Conditions: the library's variable MaxLen holds some number, its table of powers of ten lies as it lays it; the program has at most 2^40 parts, its numbers are numbers of 64 bits, its text has at most 2^47 bytes. The fixed answer of the layer show's laws: it is true; what was in memory is as it was. Conditions: the library's variable MaxLen holds some number, its table of powers of ten lies as it lays it. Texts made of blanks and signs, and what the lexer gives of them, but for places. No condition. Names, words and signs as they stand in a text. No condition but what may follow them. -/
import Derived.Test.YtdefgghhkknnpaaGreatDoorE11
import Derived.Lib.ItoaLen
set_option linter.unusedVariables false
set_option linter.unusedSimpArgs false
set_option maxRecDepth 100000
set_option maxHeartbeats 40000000
namespace Go.Proofs.YtdefgghhkknnpaaGreatDoor
namespace sh
open ChangeShapes WideShapes ChangeAt RowKit k rr tk tr
def kindL:List Int:=[10,11,12,13,14,15,16,17,18,20,21,22,23,24,25,26,27,28,29,30,31]
theorem kind_all:kindL.all (fun n=>decide ((sd.shapeOf n).name=⟨(kindS n).toArray⟩)&&(kinds.any (fun k=>k.2==n)&&(!(kindS n==[]))))=true:=by kernel_rfl
theorem kind_none {n:Int} (h:n ∉ kindL):(sd.shapeOf n).name=⟨#[]⟩∧kindS n=[]∧kinds.any (fun k=>k.2==n)=false:=by
 have hk:∀ k∈kinds,k.2≠n:=fun k hk e=>h (by
  have:kinds.all (fun k=>kindL.contains k.2)=true:=by decide
  rw [List.all_eq_true] at this;have h2:=this k hk;rw [List.contains_iff_mem] at h2;exact e ▸ h2)
 have hf:kinds.any (fun k=>k.2==n)=false:=by
  rw [List.any_eq_false];intro k hk2;simpa using hk k hk2
 refine ⟨?_,?_,hf⟩
 ·have hs:∀ l:List (Int×sd.Sh),(∀ p∈l,p.1≠n)→∀ d,sd.shIn d l n=d:=by
   intro l;induction l with
   | nil=>intro _ d;rfl
   | cons p l ih=>
    intro hl d;obtain ⟨k,s⟩:=p;have h1:=hl _ (List.mem_cons_self ..);have h2:=ih (fun q hq=>hl q (List.mem_cons_of_mem _ hq)) d;simp only at h1;rw [sd.shIn,if_neg (by simpa using Ne.symm h1)];exact h2
  have a1:(sd.shA++sd.shM).all (fun p=>kindL.contains p.1)=true:=by decide
  rw [List.all_eq_true] at a1;have a2:∀ p∈sd.shA++sd.shM,p.1≠n:=fun p hp e=>h (by have:=a1 p hp;rw [List.contains_iff_mem] at this;exact e ▸ this)
  unfold sd.shapeOf sd.motionOf;rw [hs _ (fun p hp=>a2 p (List.mem_append_left _ hp)),hs _ (fun p hp=>a2 p (List.mem_append_right _ hp))];rfl
 ·unfold kindS
  have:kinds.find? (fun k=>k.2==n)=none:=by
   rw [List.find?_eq_none];intro k hk2;simpa using hk k hk2
  rw [this]
theorem kind_name (n:Int):(sd.shapeOf n).name=⟨(kindS n).toArray⟩∧kinds.any (fun k=>k.2==n)=!(kindS n==[]):=by
 by_cases h:n∈kindL
 ·have:=kind_all
  rw [List.all_eq_true] at this;have h2:=this n h;simp only [Bool.and_eq_true,decide_eq_true_eq] at h2;exact ⟨h2.1,by rw [h2.2.1,h2.2.2]⟩
 ·obtain ⟨a,b,c⟩:=kind_none h
  rw [a,b,c];exact ⟨rfl,rfl⟩
theorem stdName_any (n:Int) (w:World):Calls Tryz.prog 62 #[.int .i64 n] w fun e w'=>e=.returned (sv (kindS n))∧Below w.heap.size w w':=by
 have:=sd.name_of n w;rw [(kind_name n).1] at this;exact this
theorem section_any (n:Int) (w:World):Calls Tryz.prog 36 #[.int .i64 n] w fun e w'=>e=.returned (sv (secS n))∧w'=w:=by
 by_cases e0:n=0
 ·subst e0
  go_enter Tryz.func36,Tryz.ntmps36
  go_wp2;go_ret
  exact ⟨rfl,rfl⟩
 by_cases e1:n=1
 ·subst e1
  go_enter Tryz.func36,Tryz.ntmps36
  go_wp2;go_ret
  exact ⟨rfl,rfl⟩
 by_cases e2:n=2
 ·subst e2
  go_enter Tryz.func36,Tryz.ntmps36
  go_wp2;go_ret
  exact ⟨rfl,rfl⟩
 rw [secS,if_neg e0,if_neg e1,if_neg e2];have z0:=neb e0;have z1:=neb e1;have z2:=neb e2;clear e0 e1 e2;go_enter Tryz.func36,Tryz.ntmps36
 go_wp2;go_ret
 exact ⟨rfl,rfl⟩
theorem plain_any (n:Int) (w:World):Calls Tryz.prog 59 #[.int .i64 n] w fun e w'=>e=.returned (sv (plainS n))∧w'=w:=by
 by_cases e1:n=1
 ·subst e1
  go_enter Tryz.func59,Tryz.ntmps59
  go_wp2;go_ret
  exact ⟨rfl,rfl⟩
 by_cases e2:n=2
 ·subst e2
  go_enter Tryz.func59,Tryz.ntmps59
  go_wp2;go_ret
  exact ⟨rfl,rfl⟩
 rw [plainS,if_neg e1,if_neg e2];have z1:=neb e1;have z2:=neb e2;clear e1 e2;go_enter Tryz.func59,Tryz.ntmps59
 go_wp2;go_ret
 exact ⟨rfl,rfl⟩
theorem rightType_any (v:Va) (w:World):Calls Tryz.prog 55 #[.agg (vC v).toArray] w fun e w'=>e=.returned (.bool (typeB v))∧Below w.heap.size w w':=by
 have PL:=qh fun W=>plain_any v.type W
 have SG:=qh fun W=>signed_any v.init W
 have NM:=qh fun W=>stdName_any v.type W
 have KN:=(kind_name v.type).2;have k0:=str_no (kindS v.type) _ rfl;have p0:=str_no (plainS v.type) _ rfl;obtain ⟨nm,ty,se,ar,lo,hi,ini,ln⟩:=v;simp only at PL SG NM KN k0 p0;unfold typeB;simp only;rw [KN];have hp:(ty==1||ty==2)=!(plainS ty==[]):=by
  unfold plainS;by_cases h1:ty=1
  ·subst h1;rfl
  by_cases h2:ty=2
  ·subst h2;rfl
  rw [if_neg h1,if_neg h2,neb h1,neb h2];rfl
 rw [hp];simp only [vC,sv];unfold sv at PL NM;have HB:=qh (al1 w (.cells #[.string ⟨nm.toArray⟩,.int .i64 ty,.int .i64 se,.bool ar,.int .i64 lo,.int .i64 hi,.int .i64 ini,.int .i64 ln] 60));have X1:=qh (Box.new w #[.string ⟨nm.toArray⟩,.int .i64 ty,.int .i64 se,.bool ar,.int .i64 lo,.int .i64 hi,.int .i64 ini,.int .i64 ln] 60);have k1:(⟨(kindS ty).toArray⟩:ByteArray).toList.isEmpty=(kindS ty==[]):=by rw [←k0];cases (⟨(kindS ty).toArray⟩:ByteArray).toList<;>rfl
 have p1:(⟨(plainS ty).toArray⟩:ByteArray).toList.isEmpty=(plainS ty==[]):=by rw [←p0];cases (⟨(plainS ty).toArray⟩:ByteArray).toList<;>rfl
 clear KN hp k0 p0;generalize (⟨(kindS ty).toArray⟩:ByteArray)=xk at *;generalize (⟨(plainS ty).toArray⟩:ByteArray)=xp at *;generalize (⟨nm.toArray⟩:ByteArray)=xn at *;generalize (kindS ty==[])=uk at *;generalize (plainS ty==[])=up at *;obtain ⟨R,hR⟩:∃ R,(if ar=true then !up&&(decide (0≤lo)&&(decide (lo≤hi)&&(decide (hi≤255)&&ini==0))) else if lo≠0∨hi≠0 then false else if ty=1 then ini != -9223372036854775808 else if ty=2 then ini==0||ini==1 else !uk&&ini==0)=R:=⟨_,rfl⟩;rw [hR];have HR:=qh hR;clear hR;go_enter Tryz.func55,Tryz.ntmps55
 go_upto_region 1 with (fail)
 generalize w.alloc (.cells #[.string xn,.int .i64 ty,.int .i64 se,.bool ar,.int .i64 lo,.int .i64 hi,.int .i64 ini,.int .i64 ln] 60)=w1 at *;have ZZ:=qh (show w.heap.size<w1.heap.size from lt_of_cell X1.out.1);have ⟨_,_,c1,_,_,_,c3,_,c4,_,c5,_,c6,_,_⟩:=X1.out;cases ar
 rotate_left 1
 ·go_wp2_with (go_at_call 59;fail)
  refine (PL.out _).mono ?_;rintro e w2 ⟨rfl,rfl⟩;clear PL SG NM k1;cases up
  rotate_left 1
  ·have HF:=qh (show false=R by rw [←HR.out,if_pos trivial];rfl)
   go_wp2_with fail
   go_ret
   exact ⟨ret_bool HF.out,HB.out⟩
  by_cases h1:0≤lo
  rotate_left 1
  ·have HF:=qh (show false=R by rw [←HR.out,if_pos trivial,decide_eq_false h1];rfl)
   go_wp2_with fail
   go_ret
   exact ⟨ret_bool HF.out,HB.out⟩
  by_cases h2:lo≤hi
  rotate_left 1
  ·have HF:=qh (show false=R by rw [←HR.out,if_pos trivial,decide_eq_true h1,decide_eq_false h2];rfl)
   go_wp2_with fail
   go_ret
   exact ⟨ret_bool HF.out,HB.out⟩
  by_cases h3:hi≤255
  rotate_left 1
  ·have HF:=qh (show false=R by rw [←HR.out,if_pos trivial,decide_eq_true h1,decide_eq_true h2,decide_eq_false h3];rfl)
   go_wp2_with fail
   go_ret
   exact ⟨ret_bool HF.out,HB.out⟩
  have HF:=qh (show (ini==0)=R by rw [←HR.out,if_pos trivial,decide_eq_true h1,decide_eq_true h2,decide_eq_true h3];rfl);go_wp2_with fail
  go_ret
  exact ⟨ret_bool HF.out,HB.out⟩
 clear PL p1;by_cases h1:lo=0
 rotate_left 1
 ·have HF:=qh (show false=R by rw [←HR.out,if_neg (by decide),if_pos (Or.inl h1)])
  have z1:(lo != 0)=true:=by rw [bne_iff_ne];exact h1
  clear h1;go_wp2_with fail
  go_ret
  exact ⟨ret_bool HF.out,HB.out⟩
 by_cases h2:hi=0
 rotate_left 1
 ·have HF:=qh (show false=R by rw [←HR.out,if_neg (by decide),if_pos (Or.inr h2)])
  have z2:(hi != 0)=true:=by rw [bne_iff_ne];exact h2
  subst h1;clear h2;go_wp2_with fail
  go_ret
  exact ⟨ret_bool HF.out,HB.out⟩
 subst h1 h2;by_cases e1:ty=1
 ·subst e1
  have HF:=qh (show (ini != -9223372036854775808)=R by rw [←HR.out,if_neg (by decide),if_neg (by simp),if_pos rfl]);clear NM k1;go_wp2_with (go_at_call 86;fail)
  refine (SG.out _).mono ?_;rintro e w2 ⟨rfl,hb⟩;have B2:=btr HB hb;clear hb SG;go_wp2_with fail
  go_ret
  exact ⟨ret_bool HF.out,B2.out⟩
 clear SG;by_cases e2:ty=2
 ·subst e2
  clear NM k1;obtain ⟨u1,h1⟩:∃ u,(ini==0)=u:=⟨_,rfl⟩;obtain ⟨u2,h2⟩:∃ u,(ini==1)=u:=⟨_,rfl⟩;have HF:=qh (show (u1||u2)=R by rw [←HR.out,if_neg (by decide),if_neg (by simp),if_neg (by decide),if_pos rfl,h1,h2]);cases u1
  ·go_wp2_with fail
   go_ret
   exact ⟨ret_bool HF.out,HB.out⟩
  ·go_wp2_with fail
   go_ret
   exact ⟨ret_bool HF.out,HB.out⟩
 have HF:=qh (show (!uk&&ini==0)=R by rw [←HR.out,if_neg (by decide),if_neg (by simp),if_neg e1,if_neg e2]);have z1:=neb e1;have z2:=neb e2;clear e1 e2;have hbx:Box w1 w.heap.size 0 [.string xn,.int .i64 ty,.int .i64 se,.bool false,.int .i64 0,.int .i64 0,.int .i64 ini,.int .i64 ln]:=X1.out;have XB:=qh hbx;clear hbx;go_wp2_with (go_at_call 62;fail)
 refine (NM.out _).mono ?_;rintro e w2 ⟨rfl,hb⟩;have B2:=btr HB hb;have X2:=qh (XB.out.below hb (by have:=ZZ.out;omega));clear hb NM c1 c3 c4 c5 c6 XB;have ⟨_,_,c1,_,_,_,c3,_,c4,_,c5,_,c6,_,_⟩:=X2.out;cases uk
 ·go_wp2_with fail
  go_ret
  exact ⟨ret_bool HF.out,B2.out⟩
 ·go_wp2_with fail
  go_ret
  exact ⟨ret_bool HF.out,B2.out⟩
theorem sec_no (n:Int):(secS n==[])=!(n==0||(n==1||n==2)):=by
 unfold secS;by_cases h0:n=0
 ·subst h0;rfl
 by_cases h1:n=1
 ·subst h1;rfl
 by_cases h2:n=2
 ·subst h2;rfl
 rw [if_neg h0,if_neg h1,if_neg h2,neb h0,neb h1,neb h2];rfl
theorem rightVar_any (v:Va) (w:World) (hM:MaxL w):Calls Tryz.prog 33 #[.agg (vC v).toArray] w fun e w'=>e=.returned (.bool (vaB v))∧Below w.heap.size w w':=by
 have C1:=qh fun W (hW:Below w.heap.size w W)=>isName_any ⟨v.name.toArray⟩ W (hM.below hW)
 rw [sv_list] at C1;have C2:=qh fun W=>section_any v.sect W
 have C3:=qh fun W=>rightType_any v W
 have s0:=str_no (secS v.sect) _ rfl;have s1:(⟨(secS v.sect).toArray⟩:ByteArray).toList.isEmpty=(secS v.sect==[]):=by rw [←s0];cases (⟨(secS v.sect).toArray⟩:ByteArray).toList<;>rfl
 unfold vaB;rw [show (v.sect==0||(v.sect==1||v.sect==2))=!(secS v.sect==[]) by rw [sec_no,Bool.not_not]];unfold sv at C2;generalize (⟨(secS v.sect).toArray⟩:ByteArray)=xs at *;generalize (secS v.sect==[])=u2 at *;generalize nmB v.name=u1 at *;generalize typeB v=u3 at *;clear hM s0;have HB:=qh (al1 w (.cells (vC v).toArray 60));have X1:=qh (Box.new w (vC v).toArray 60);have Z1:=qh (show (w.alloc (.cells (vC v).toArray 60)).heap.size=w.heap.size+1 by simp);obtain ⟨R,hR⟩:∃ R,(u1&&(!u2&&u3))=R:=⟨_,rfl⟩;rw [hR];have HR:=qh hR;clear hR;go_enter Tryz.func33,Tryz.ntmps33
 go_upto_region 1 with (fail)
 generalize w.alloc (.cells (vC v).toArray 60)=w1 at *;have X1:Hid (Box w1 w.heap.size 0 (vC v)):=X1;have c0:=(cell_of X1.out (i:=0) rfl).1;simp only [sv] at c0;go_wp2_with (go_at_call 31;fail)
 refine (C1.out _ HB.out).mono ?_;rintro e w2 ⟨rfl,hb⟩;have X2:=qh (X1.out.below hb (by have:=Z1.out;omega));have B2:=btr HB hb;clear hb c0 C1;have c2:=(cell_of X2.out (i:=2) rfl).1;cases u1
 ·have HF:=qh (show false=R by rw [←HR.out];rfl)
  go_wp2_with fail
  go_ret
  exact ⟨ret_bool HF.out,B2.out⟩
 go_wp2_with (go_at_call 36;fail)
 refine (C2.out _).mono ?_;rintro e w3 ⟨rfl,rfl⟩;cases u2
 rotate_left 1
 ·have HF:=qh (show false=R by rw [←HR.out];rfl)
  go_wp2_with fail
  go_ret
  exact ⟨ret_bool HF.out,B2.out⟩
 have HF:=qh (show u3=R by rw [←HR.out];simp);go_wp2_with (first|((with_reducible refine m_load X2.out 60 1 ?_ ?_ ?_ ?_ ?_ ?_);rfl;rfl;rfl;rfl;kernel_rfl)|(go_at_call 55;fail))
 refine (C3.out _).mono ?_;rintro e w4 ⟨rfl,hb⟩;have B4:=btr B2 hb;clear hb;go_wp2_with fail
 go_ret
 exact ⟨ret_bool HF.out,B4.out⟩
theorem rightProgram_any {p:Pg} {h:GH} {w:World} (hM:MaxL w) (hp:PgAt w w.heap.size p h) (hW:wsS p.body≤big):Calls Tryz.prog 14 #[.agg (gC h).toArray] w fun e w'=>e=.returned (.bool (pgB p))∧Below w.heap.size w w':=by
 obtain ⟨h1,h2,h3⟩:=hp;obtain ⟨nm,⟨A1,l1,c1⟩,⟨A2,l2,c2⟩⟩:=h;simp only at h1 h2 h3;subst h1;have lv:p.vars.length=l1:=h2.1;have C1:=qh fun W (hW:Below w.heap.size w W)=>isName_any ⟨p.name.toArray⟩ W (hM.below hW)
 rw [sv_list] at C1;have C2:=qh fun W (hW:Below w.heap.size w W)=>(show Calls Tryz.prog 32 #[.slice A1 l1 c1,.func (.func 33) #[] #[]] W fun e w'=>e=.returned (.bool (p.vars.all vaB))∧Below W.heap.size W w' from
  all_v (h2.below hW hW.size) (fun i=>(p.vars.drop i).all vaB) (fun i=>(p.vars[i]?.map vaB).getD false) _ rfl (by show (p.vars.drop l1).all vaB=true;rw [List.drop_of_length_le (by omega)];rfl) (fun i hi=>row_all (by simp only at hi;omega) _)
   (fun i x hx W' hW'=>by rw [at_get hx];exact rightVar_any x W' ((hM.below hW).below hW')))
 have C3:=qh fun W (hW':Below w.heap.size w W)=>right_sl hW (hM.below hW') (h3.below hW' hW'.size)
 unfold pgB;rw [lv];have h64:decide ((l1:Int)≤64)=decide (l1≤64):=by simp only [decide_eq_decide];omega
 generalize nmB p.name=u1 at *;generalize p.vars.all vaB=u3 at *;generalize stsB p.body=u4 at *;clear hM hW h2 h3 lv;simp only [gC,sv,Sl.v] at C3 ⊢;generalize (⟨p.name.toArray⟩:ByteArray)=xs at *;have HB:=qh (al1 w (.cells #[.string xs,.slice A1 l1 c1,.slice A2 l2 c2] 25));have X1:=qh (Box.new w #[.string xs,.slice A1 l1 c1,.slice A2 l2 c2] 25);have Z1:=qh (show (w.alloc (.cells #[.string xs,.slice A1 l1 c1,.slice A2 l2 c2] 25)).heap.size=w.heap.size+1 by simp);obtain ⟨R,hR⟩:∃ R,(u1&&(decide (l1≤64)&&(u3&&u4)))=R:=⟨_,rfl⟩;rw [hR];have HR:=qh hR;clear hR;go_enter Tryz.func14,Tryz.ntmps14
 go_upto_region 1 with (fail)
 generalize w.alloc (.cells #[.string xs,.slice A1 l1 c1,.slice A2 l2 c2] 25)=w1 at *;have ⟨c0,_,_,_,_,_,_⟩:=X1.out;go_wp2_with (go_at_call 31;fail)
 refine (C1.out _ HB.out).mono ?_;rintro e w2 ⟨rfl,hb⟩;have X2:=qh (X1.out.below hb (by have:=Z1.out;omega));have B2:=btr HB hb;have Z2:=qh (show w.heap.size<w2.heap.size by have:=Z1.out;have:=hb.size;omega);clear hb c0 C1 X1;have ⟨c0,_,c1,_,c2,_,_⟩:=X2.out;cases u1
 ·have HF:=qh (show false=R by rw [←HR.out];rfl)
  go_wp2_with fail
  go_ret
  exact ⟨ret_bool HF.out,B2.out⟩
 by_cases h6:l1≤64
 rotate_left 1
 ·have HF:=qh (show false=R by rw [←HR.out,decide_eq_false h6];rfl)
  have h6':¬ (l1:Int)≤64:=by omega
  clear h6 h64;go_wp2_with fail
  go_ret
  exact ⟨ret_bool HF.out,B2.out⟩
 have HR2:=qh (show (u3&&u4)=R by rw [←HR.out,decide_eq_true h6];rfl);have h6':(l1:Int)≤64:=by omega
 clear h6 h64 HR;go_wp2_with (go_at_call 32;fail)
 refine (C2.out _ B2.out).mono ?_;rintro e w3 ⟨rfl,hb⟩;have X3:=qh (X2.out.below hb Z2.out);have B3:=btr B2 hb;clear hb c0 c1 c2 C2 X2;have ⟨c0,_,c1,_,c2,_,_⟩:=X3.out;cases u3
 ·have HF:=qh (show false=R by rw [←HR2.out];rfl)
  go_wp2_with fail
  go_ret
  exact ⟨ret_bool HF.out,B3.out⟩
 have HF:=qh (show u4=R by rw [←HR2.out];rfl);go_wp2_with (go_at_call 34;fail)
 refine (C3.out _ B3.out).mono ?_;rintro e w4 ⟨rfl,hb⟩;have B4:=btr B3 hb;clear hb c0 c1 c2 C3 X3;go_wp2_with fail
 go_ret
 exact ⟨ret_bool HF.out,B4.out⟩
end sh
namespace sh
open ChangeShapes WideShapes ChangeAt RowKit k rr tk tr
theorem num_len {n:Int} (h:InI n):(numS n).length≤21:=Lib.itoa_length_le n h.1 h.2
theorem typeText_any (v:Va) (hv:typeB v=true) (hi:InI v.init) (w:World) (hL:Laid w):Calls Tryz.prog 37 #[.agg (vC v).toArray] w fun e w'=>e=.returned (sv (typeS v))∧Below w.heap.size w w':=by
 have PL:=qh fun W=>plain_any v.type W
 have NM:=qh fun W=>stdName_any v.type W
 have LL:=qh fun W (hW:Below w.heap.size w W)=>hL.below hW
 obtain ⟨nm,ty,se,ar,lo,hi',ini,ln⟩:=v;simp only at PL NM hi;unfold typeS;simp only [vC,sv];unfold sv at PL NM;have HB:=qh (al1 w (.cells #[.string ⟨nm.toArray⟩,.int .i64 ty,.int .i64 se,.bool ar,.int .i64 lo,.int .i64 hi',.int .i64 ini,.int .i64 ln] 60));have X1:=qh (Box.new w #[.string ⟨nm.toArray⟩,.int .i64 ty,.int .i64 se,.bool ar,.int .i64 lo,.int .i64 hi',.int .i64 ini,.int .i64 ln] 60);have Z1:=qh (show (w.alloc (.cells #[.string ⟨nm.toArray⟩,.int .i64 ty,.int .i64 se,.bool ar,.int .i64 lo,.int .i64 hi',.int .i64 ini,.int .i64 ln] 60)).heap.size=w.heap.size+1 by simp);generalize (⟨nm.toArray⟩:ByteArray)=xn at *;have pl:(plainS ty).length≤4:=by
  unfold plainS;split
  ·decide
  ·split<;>decide
 unfold typeB at hv;simp only at hv;cases ar
 rotate_left 1
 ·rw [if_pos rfl] at hv ⊢
  simp only [Bool.and_eq_true,decide_eq_true_eq] at hv;have il:InI lo:=⟨by omega,by omega⟩;have ih:InI hi':=⟨by omega,by omega⟩;have IL:=qh il;have IH:=qh ih;have l1:=num_len il;have l2:=num_len ih;obtain ⟨T,hT⟩:∃ T,[65,82,82,65,89,91]++numS lo++[46,46]++numS hi'++[93,32,79,70,32]++plainS ty=T:=⟨_,rfl⟩;rw [hT];have HTX:Hid ((⟨#[65,82,82,65,89,91]⟩:ByteArray)++⟨(numS lo).toArray⟩++⟨#[46,46]⟩++⟨(numS hi').toArray⟩++⟨#[93,32,79,70,32]⟩++⟨(plainS ty).toArray⟩=⟨T.toArray⟩):=qh (by
   rw [←hT,show (⟨#[65,82,82,65,89,91]⟩:ByteArray)=⟨([65,82,82,65,89,91]:Str).toArray⟩ from rfl,show (⟨#[46,46]⟩:ByteArray)=⟨([46,46]:Str).toArray⟩ from rfl,show (⟨#[93,32,79,70,32]⟩:ByteArray)=⟨([93,32,79,70,32]:Str).toArray⟩ from rfl];simp only [cat_sv])
  have s1:(⟨(numS lo).toArray⟩:ByteArray).size≤21:=l1;have s2:(⟨(numS hi').toArray⟩:ByteArray).size≤21:=l2;have s3:(⟨(plainS ty).toArray⟩:ByteArray).size≤4:=pl;have DL:=qh fun W h=>decimal_any lo il W h
  have DH:=qh fun W h=>decimal_any hi' ih W h
  unfold sv at DL DH;generalize (⟨(numS lo).toArray⟩:ByteArray)=xlo at *;generalize (⟨(numS hi').toArray⟩:ByteArray)=xhi at *;generalize (⟨(plainS ty).toArray⟩:ByteArray)=xp at *;have q1:¬ 9223372036854775807<6+xlo.size:=by omega
  have q2:¬ 9223372036854775807<6+xlo.size+2:=by omega
  have q3:¬ 9223372036854775807<6+xlo.size+2+xhi.size:=by omega
  have q4:¬ 9223372036854775807<6+xlo.size+2+xhi.size+5:=by omega
  have q5:¬ 9223372036854775807<6+xlo.size+2+xhi.size+5+xp.size:=by omega
  have QQ:=qh (And.intro q1 (And.intro q2 (And.intro q3 (And.intro q4 q5))));clear hv il ih l1 l2 hT s1 s2 s3 hi hL NM pl q1 q2 q3 q4 q5;go_enter Tryz.func37,Tryz.ntmps37
  go_upto_region 1 with (fail)
  generalize w.alloc (.cells #[.string xn,.int .i64 ty,.int .i64 se,.bool true,.int .i64 lo,.int .i64 hi',.int .i64 ini,.int .i64 ln] 60)=w1 at *;have ⟨_,_,c1,_,_,_,c3,_,c4,_,c5,_,c6,_,_⟩:=X1.out;have C4:=qh c4;have C5:=qh c5;go_wp2_with (go_at_call 59;fail)
  refine (PL.out _).mono ?_;rintro e w2 ⟨rfl,rfl⟩;go_upto_region 3 with (fail)
  clear c1 c3 c4 c5 c6;refine wp_region_T (by kernel_rfl) (fun w'=>Below w2.heap.size w2 w') [] (Below.refl _ _).drew (fun hHeld=>?_);have BD:=qh (Below.drew (Below.refl w2.heap.size w2));generalize w2.drew=w3 at *;refine tkq (i:=0) (v:=?_) rfl ?_ ?_;rotate_left 1
  ·intro w_ hSw;clear hSw;have ⟨q1,q2,q3,q4,q5⟩:=QQ.out;go_simp<;>(with_reducible rfl)
  try simp only [lq0,lq7,lq1,lq2,lq3,lq4,lq5,lq6]
  refine tkq (i:=1) (v:=?_) rfl ?_ ?_;rotate_left 1
  ·intro w_ hSw;have hl:=(hSw.cell (p:=⟨w.heap.size,4,none⟩) (by have:=Z1.out;show w.heap.size<_;omega)).trans C4.out;clear hSw;go_simp<;>(with_reducible rfl)
  try simp only [lq0,lq7,lq1,lq2,lq3,lq4,lq5,lq6]
  refine tkq (i:=5) (v:=?_) rfl ?_ ?_;rotate_left 1
  ·intro w_ hSw;clear hSw;have ⟨q1,q2,q3,q4,q5⟩:=QQ.out;go_simp<;>(with_reducible rfl)
  try simp only [lq0,lq7,lq1,lq2,lq3,lq4,lq5,lq6]
  refine tkq (i:=6) (v:=?_) rfl ?_ ?_;rotate_left 1
  ·intro w_ hSw;have hl:=(hSw.cell (p:=⟨w.heap.size,5,none⟩) (by have:=Z1.out;show w.heap.size<_;omega)).trans C5.out;clear hSw;go_simp<;>(with_reducible rfl)
  try simp only [lq0,lq7,lq1,lq2,lq3,lq4,lq5,lq6]
  refine tkq (i:=10) (v:=?_) rfl ?_ ?_;rotate_left 1
  ·intro w_ hSw;clear hSw;have ⟨q1,q2,q3,q4,q5⟩:=QQ.out;go_simp<;>(with_reducible rfl)
  try simp only [lq0,lq7,lq1,lq2,lq3,lq4,lq5,lq6]
  refine wpAnyT_ready (rs:=[2]) (by kernel_rfl) (by simp) ?_;refine AllReadyT.cons rfl (fun K hK=>?_) AllReadyT.nil;go_simp;go_at_call 60
  refine (DL.out _ (LL.out _ (HB.out.trans (BD.out.mono HB.out.size)))).mono ?_;rintro e w4 ⟨rfl,hb⟩;have BE:=btr BD hb;clear hb;go_wp2_with fail
  refine hK _ _ BE.out (fun hHeld=>?_);clear hK K;try simp only [lq0,lq7,lq1,lq2,lq3,lq4,lq5,lq6]
  refine tkq (i:=3) (v:=?_) rfl ?_ ?_;rotate_left 1
  ·intro w_ hSw;clear hSw;have ⟨q1,q2,q3,q4,q5⟩:=QQ.out;go_simp<;>(with_reducible rfl)
  try simp only [lq0,lq7,lq1,lq2,lq3,lq4,lq5,lq6]
  refine tkq (i:=4) (v:=?_) rfl ?_ ?_;rotate_left 1
  ·intro w_ hSw;clear hSw;have ⟨q1,q2,q3,q4,q5⟩:=QQ.out;go_simp<;>(with_reducible rfl)
  try simp only [lq0,lq7,lq1,lq2,lq3,lq4,lq5,lq6]
  refine wpAnyT_ready (rs:=[7]) (by kernel_rfl) (by simp) ?_;refine AllReadyT.cons rfl (fun K hK=>?_) AllReadyT.nil;go_simp;go_at_call 60
  refine (DH.out _ (LL.out _ (HB.out.trans (BE.out.mono HB.out.size)))).mono ?_;rintro e w5 ⟨rfl,hb⟩;have BG:=btr BE hb;clear hb;go_wp2_with fail
  refine hK _ _ BG.out (fun hHeld=>?_);clear hK K;try simp only [lq0,lq7,lq1,lq2,lq3,lq4,lq5,lq6]
  refine tkq (i:=8) (v:=?_) rfl ?_ ?_;rotate_left 1
  ·intro w_ hSw;clear hSw;have ⟨q1,q2,q3,q4,q5⟩:=QQ.out;go_simp<;>(with_reducible rfl)
  try simp only [lq0,lq7,lq1,lq2,lq3,lq4,lq5,lq6]
  refine tkq (i:=9) (v:=?_) rfl ?_ ?_;rotate_left 1
  ·intro w_ hSw;clear hSw;have ⟨q1,q2,q3,q4,q5⟩:=QQ.out;go_simp<;>(with_reducible rfl)
  try simp only [lq0,lq7,lq1,lq2,lq3,lq4,lq5,lq6]
  refine tkq (i:=11) (v:=?_) rfl ?_ ?_;rotate_left 1
  ·intro w_ hSw;clear hSw;have ⟨q1,q2,q3,q4,q5⟩:=QQ.out;go_simp<;>(with_reducible rfl)
  try simp only [lq0,lq7,lq1,lq2,lq3,lq4,lq5,lq6]
  refine tkq (i:=12) (v:=?_) rfl ?_ ?_;rotate_left 1
  ·intro w_ hSw;clear hSw;have ⟨q1,q2,q3,q4,q5⟩:=QQ.out;go_simp<;>(with_reducible rfl)
  try simp only [lq0,lq7,lq1,lq2,lq3,lq4,lq5,lq6]
  refine wpAnyT_done (by kernel_rfl) ?_ _;go_wp2;go_ret
  rw [HTX.out];exact ⟨rfl,HB.out.trans (BG.out.mono HB.out.size)⟩
 have hv:(if lo≠0∨hi'≠0 then false else if ty=1 then ini != -9223372036854775808 else if ty=2 then ini==0||ini==1 else (kinds.any fun k=>k.2==ty)&&ini==0)=true:=by
  rw [if_neg (by decide)] at hv;exact hv
 clear hv;by_cases e1:ty=1
 ·subst e1
  rw [if_neg (by decide),if_pos rfl];obtain ⟨T,hT⟩:∃ T,plainS 1++[32,58,61,32]++numS ini=T:=⟨_,rfl⟩;rw [hT];have HTX:Hid ((⟨(plainS 1).toArray⟩:ByteArray)++⟨#[32,58,61,32]⟩++⟨(numS ini).toArray⟩=⟨T.toArray⟩):=qh (by
   rw [←hT,show (⟨#[32,58,61,32]⟩:ByteArray)=⟨([32,58,61,32]:Str).toArray⟩ from rfl];simp only [cat_sv])
  have s1:(⟨(numS ini).toArray⟩:ByteArray).size≤21:=num_len hi;have s3:(⟨(plainS 1).toArray⟩:ByteArray).size≤4:=pl;have DL:=qh fun W h=>decimal_any ini hi W h
  unfold sv at DL;generalize (⟨(numS ini).toArray⟩:ByteArray)=xlo at *;generalize (⟨(plainS 1).toArray⟩:ByteArray)=xp at *;have q1:¬ 9223372036854775807<xp.size+4:=by omega
  have q2:¬ 9223372036854775807<xp.size+4+xlo.size:=by omega
  clear hT s1 s3 hi hL NM pl;go_enter Tryz.func37,Tryz.ntmps37
  go_upto_region 1 with (fail)
  generalize w.alloc (.cells #[.string xn,.int .i64 1,.int .i64 se,.bool false,.int .i64 lo,.int .i64 hi',.int .i64 ini,.int .i64 ln] 60)=w1 at *;have ⟨_,_,c1,_,_,_,c3,_,c4,_,c5,_,c6,_,_⟩:=X1.out;go_wp2_with (go_at_call 59;fail)
  refine (PL.out _).mono ?_;rintro e w2 ⟨rfl,rfl⟩;go_wp2_with (go_at_call 60;fail)
  refine (DL.out _ (LL.out _ HB.out)).mono ?_;rintro e w3 ⟨rfl,hb⟩;have B3:=btr HB hb;clear hb c1 c3 c4 c5 c6;go_wp2_with fail
  go_ret
  rw [HTX.out];exact ⟨rfl,B3.out⟩
 by_cases e2:ty=2
 ·subst e2
  rw [if_neg (by decide),if_neg (by decide),if_pos rfl];obtain ⟨T,hT⟩:∃ T,plainS 2++[32,58,61,32]++truthS ini=T:=⟨_,rfl⟩;rw [hT];have HTX:Hid ((⟨(plainS 2).toArray⟩:ByteArray)++⟨#[32,58,61,32]⟩++⟨(truthS ini).toArray⟩=⟨T.toArray⟩):=qh (by
   rw [←hT,show (⟨#[32,58,61,32]⟩:ByteArray)=⟨([32,58,61,32]:Str).toArray⟩ from rfl];simp only [cat_sv])
  have s1:(⟨(truthS ini).toArray⟩:ByteArray).size≤5:=by
   show (truthS ini).length≤5
   unfold truthS;split<;>decide
  have s3:(⟨(plainS 2).toArray⟩:ByteArray).size≤4:=pl;have DL:=qh fun W=>truth_any ini W
  unfold sv at DL;generalize (⟨(truthS ini).toArray⟩:ByteArray)=xlo at *;generalize (⟨(plainS 2).toArray⟩:ByteArray)=xp at *;have q1:¬ 9223372036854775807<xp.size+4:=by omega
  have q2:¬ 9223372036854775807<xp.size+4+xlo.size:=by omega
  clear hT s1 s3 hi hL NM pl;go_enter Tryz.func37,Tryz.ntmps37
  go_upto_region 1 with (fail)
  generalize w.alloc (.cells #[.string xn,.int .i64 2,.int .i64 se,.bool false,.int .i64 lo,.int .i64 hi',.int .i64 ini,.int .i64 ln] 60)=w1 at *;have ⟨_,_,c1,_,_,_,c3,_,c4,_,c5,_,c6,_,_⟩:=X1.out;go_wp2_with (go_at_call 59;fail)
  refine (PL.out _).mono ?_;rintro e w2 ⟨rfl,rfl⟩;go_wp2_with (go_at_call 61;fail)
  refine (DL.out _).mono ?_;rintro e w3 ⟨rfl,rfl⟩;go_wp2_with fail
  go_ret
  rw [HTX.out];exact ⟨rfl,HB.out⟩
 rw [if_neg (by decide),if_neg e1,if_neg e2];have z1:=neb e1;have z2:=neb e2;clear e1 e2 hi hL pl;generalize (⟨(plainS ty).toArray⟩:ByteArray)=xp at *;generalize (⟨(kindS ty).toArray⟩:ByteArray)=xk at *;go_enter Tryz.func37,Tryz.ntmps37
 go_upto_region 1 with (fail)
 generalize w.alloc (.cells #[.string xn,.int .i64 ty,.int .i64 se,.bool false,.int .i64 lo,.int .i64 hi',.int .i64 ini,.int .i64 ln] 60)=w1 at *;have ⟨_,_,c1,_,_,_,c3,_,c4,_,c5,_,c6,_,_⟩:=X1.out;go_wp2_with (go_at_call 59;fail)
 refine (PL.out _).mono ?_;rintro e w2 ⟨rfl,rfl⟩;go_wp2_with (go_at_call 62;fail)
 refine (NM.out _).mono ?_;rintro e w3 ⟨rfl,hb⟩;have B3:=btr HB hb;clear hb c1 c3 c4 c5 c6;go_wp2_with fail
 go_ret
 exact ⟨rfl,B3.out⟩
def inP (p:Pg):Prop:=(∀ v∈p.vars,InI v.init)∧inSs p.body
theorem vas_at {L:List Va} {q:Nat} {x:Va} (h:L[q]?=some x):vasS (L.drop q)=vaS x++vasS (L.drop (q+1)):=by rw [drop_at h,vasS]
theorem laid_lt {w:World} (h:Laid w):0<w.heap.size:=by
 unfold Laid Lib.TabIs World.var? at h;rw [gPow] at h;simp only [Option.bind_some] at h;rcases Nat.lt_or_ge 0 w.heap.size with h'|h'
 ·exact h'
 ·rw [Array.getElem?_eq_none h'] at h;simp at h
theorem program_any {p:Pg} {h:GH} {B g:Nat} {l:Str} {w:World} (hK:Wx B g l w) (hp:PgAt w B p h) (hv:p.vars.all vaB=true) (hb:stsB p.body=true) (hin:inP p) (hlen:l.length+(pgS p).length≤lim) :
  Calls Tryz.prog 15 #[.pointer (some ⟨g,0,none⟩),.agg (gC h).toArray] w (Put B g l (pgS p) w):=by
 obtain ⟨h1,h2,h3⟩:=hp;obtain ⟨nm,⟨A1,n,c1⟩,⟨A2,n2,c2⟩⟩:=h;simp only at h1 h2 h3;subst h1;have hR:Rd vC 8 w B A1 n c1 p.vars:=h2;have hn:=hR.1;have hnl:=hR.len_le;obtain ⟨T,hT⟩:∃ T,pgS p=T:=⟨_,rfl⟩;rw [hT] at hlen ⊢;have hT2:[80,82,79,71,82,65,77,32]++p.name++[10]++vasS p.vars++stsS p.body++[69,78,68,95,80,82,79,71,82,65,77,10]=T:=hT;have hl2:=hlen;rw [←hT2] at hl2;simp only [List.length_append,List.length_cons,List.length_nil] at hl2;obtain ⟨w1,e1,K1,H1,F1,ng⟩:=hK.box (gC ⟨p.name,⟨A1,n,c1⟩,⟨A2,n2,c2⟩⟩) 25;have BX:=qh fun W (hf:Fr B g w W) (l':Str) (hk:Wx B g l' W) hl=>block_any hb hin.2 hk (h3.below hf.1 (Nat.le_refl _)) (l:=l') hl
 have VB:=qh fun (q:Nat) (x:Va) (hq:p.vars[q]?=some x)=>(show vaB x=true∧InI x.init from by
  have hm:=List.mem_of_getElem? hq;rw [List.all_eq_true] at hv;exact ⟨hv x hm,hin.1 x hm⟩)
 have HR:=qh hR;have HN:=qh hn;have HT:=qh hT2;have HL:=qh hl2;have NG:=qh ng;have K1:=qh K1;have H1:=qh H1;have F1:=qh F1;clear hK hv hb hin hlen h2 h3 hR hn hT hT2 hl2 ng;simp only [Sl.v] at BX;go_enter Tryz.func15,Tryz.ntmps15
 go_upto_region 1 with (fail)
 subst e1;generalize w.alloc (.cells (gC ⟨p.name,⟨A1,n,c1⟩,⟨A2,n2,c2⟩⟩).toArray 25)=w1 at *;have ⟨c0,_,_,_,_,_,_⟩:=H1.out.box;simp only [sv] at c0;go_wp2_with (go_at_call 35;fail)
 refine (put_new [[80,82,79,71,82,65,77,32],p.name,[10]] (t:=[80,82,79,71,82,65,77,32]++p.name++[10]) (by simp) K1.out (by simp) (by have:=HL.out;simp only [List.length_append,List.length_cons,List.length_nil];omega)).mono ?_;rintro e w2 ⟨rfl,k9,f9⟩;have K2:=qh k9;have F2:=qh f9;clear k9 f9 K1 c0;have h2:=H1.out.fr F2.out NG.out (by decide);have ⟨_,_,c1',_,_,_,_⟩:=h2.box;simp only [Sl.v] at c1';clear h2;go_upto_region 3 with (fail)
 clear c1';go_loopw [14] (fun s14 wr=>∃ (q:Nat) (t1:Str),q≤n∧s14=.int .i64 q∧t1++vasS (p.vars.drop q)++stsS p.body++[69,78,68,95,80,82,79,71,82,65,77,10]=T∧Wx B g (l++t1) wr∧Fr B g w1 wr) (fun i _=>n-(intOf i).toNat)
 case atStart=>exact ⟨0,[80,82,79,71,82,65,77,32]++p.name++[10],Nat.zero_le _,rfl,by rw [List.drop_zero];exact HT.out,K2.out,F2.out⟩
 case round=>
  obtain ⟨q,t1,hq,rfl,ht,hk,hf⟩:=hrel;by_cases hlt:q<n
  rotate_left
  ·obtain rfl:q=n:=by omega
   have hz:¬ (q:Int)<q:=by omega
   rw [List.drop_of_length_le (by have:=HN.out;omega),vasS,List.append_nil] at ht;have hlt2:l.length+t1.length+(stsS p.body).length+12≤lim:=by
    have h1:=HL.out;have h2:=congrArg List.length (ht.trans HT.out.symm);simp only [List.length_append,List.length_cons,List.length_nil] at h2;omega
   have HTT:=qh ht;have HLT:=qh hlt2;have FF:=qh (F1.out.trans hf);have KK:=qh hk;have ⟨_,_,_,_,c2',_,_⟩:=(H1.out.fr hf NG.out (by decide)).box;simp only [Sl.v] at c2';clear hk hf ht hlt2;go_wp2_with (go_at_call 38;fail)
   refine (BX.out _ FF.out _ KK.out (by have:=HLT.out;simp only [List.length_append];omega)).mono ?_;rintro e w3 ⟨rfl,k9,f9⟩;have K3:=qh k9;have F3:=qh (FF.out.trans f9);clear k9 f9 FF KK c2';go_wp2_with (go_at_call 35;fail)
   refine (put_new [[69,78,68,95,80,82,79,71,82,65,77,10]] (t:=[69,78,68,95,80,82,79,71,82,65,77,10]) rfl K3.out (by decide) (by have:=HLT.out;simp only [List.length_append,List.length_cons,List.length_nil];omega)).mono ?_;rintro e w4 ⟨rfl,k9,f9⟩;have K4:=qh (show Wx B g (l++T) w4 by rw [←HTT.out];simpa only [List.append_assoc] using k9);have F4:=qh (F3.out.trans f9);clear k9 f9 K3 F3;go_wp2_with fail
   go_end0
   exact ⟨rfl,K4.out,F4.out⟩
  have r1:Rd vC 8 wr B A1 n c1 p.vars:=HR.out.below (F1.out.trans hf).1;obtain ⟨b1,o1,x,rfl,hb1,hp,hc1⟩:=r1.at hlt;obtain ⟨hxb,hxi⟩:=VB.out q x hp;rw [vas_at hp] at ht;have ht2:(t1++vaS x)++vasS (p.vars.drop (q+1))++stsS p.body++[69,78,68,95,80,82,79,71,82,65,77,10]=T:=by
   rw [←ht];simp only [List.append_assoc]
  have hlT:l.length+t1.length+(vaS x).length≤lim:=by
   have h1:=HL.out;have h2:=congrArg List.length (ht2.trans HT.out.symm);simp only [List.length_append,List.length_cons,List.length_nil] at h2;omega
  have hva:vaS x=(secS x.sect++[10])++(x.name++[32,58,32]++typeS x++[59,10])++[69,78,68,95,86,65,82,10]:=rfl;rw [hva] at hlT;simp only [List.length_append,List.length_cons,List.length_nil] at hlT;have w1':=nat_step q (by omega);have hci:=qh hc1;have KK:=qh hk;have FF:=qh hf;have HT2:=qh ht2;have HLX:=qh hlT;have LT:=qh hlt;have HVA:=qh hva;have W1:=qh w1';have TB:=qh (show typeB x=true by
   unfold vaB at hxb;simp only [Bool.and_eq_true] at hxb;exact hxb.2.2)
  have TI:=qh hxi;have NGX:=qh (show wr.heap.size≠g by have:=hk.wr.lt;omega);clear hc1 hk hf hxb hxi ht ht2 hlT r1 hp hb1 hva w1';go_upto_region 5 with (first|((with_reducible refine m_loadR hci.out 60 16 ?_ ?_ ?_ ?_ ?_ ?_);rfl;rfl;rfl;rfl;kernel_rfl)|((with_reducible refine m_newH 60 5 17 ?_ ?_ ?_ (vC x) ?_ ?_ ?_ ?_ (vC_one _) ?_);rfl;rfl;rfl;rfl;rfl;rfl;kernel_rfl;intro w4 hx hb hz))
  have X4:=qh hx;have K4:=qh (KK.out.below hb);have F4:=qh (FF.out.trans (Fr.of hb KK.out.le));clear hx hb hz hci KK FF hlt;have c2':=(cell_of X4.out.box (i:=2) rfl).1;go_wp2_with (go_at_call 36;fail)
  refine (section_any x.sect _).mono ?_;rintro e w5 ⟨rfl,rfl⟩;unfold sv;go_wp2_with (go_at_call 35;fail)
  refine (put_new [secS x.sect,[10]] (t:=secS x.sect++[10]) (by simp) K4.out (by simp) (by have:=HLX.out;simp only [List.length_append,List.length_cons,List.length_nil];omega)).mono ?_;rintro e w6 ⟨rfl,k9,f9⟩;have K6:=qh k9;have F6:=qh (F4.out.trans f9);have X6:=qh (X4.out.fr f9 NGX.out (by decide));clear k9 f9 K4 F4 X4 c2';go_upto_region 6 with (fail)
  refine wp_region_T (by kernel_rfl) (fun w'=>Hb w' wr.heap.size 60 (vC x)) [] X6.out (fun hHeld=>?_);have K7:=qh (K6.out.below (Below.drew (Below.refl w6.heap.size w6)));have F7:=qh (F6.out.trans (Fr.of (Below.drew (Below.refl w6.heap.size w6)) K6.out.le));have X7:Hid (Hb w6.drew wr.heap.size 60 (vC x)):=X6;clear K6 F6 X6;generalize w6.drew=w7 at *;refine tkr (i:=0) rfl ?_;try simp only [lq0,lq7,lq1,lq2,lq3,lq4,lq5,lq6]
  refine tkr (i:=1) rfl ?_;try simp only [lq0,lq7,lq1,lq2,lq3,lq4,lq5,lq6]
  refine tkq (i:=2) (v:=?_) rfl ?_ ?_;rotate_left 1
  ·intro w_ hSw;have hl:=(cell_of hSw.box (i:=0) (v:=sv x.name) rfl).1;unfold sv at hl;clear hSw;go_simp<;>(with_reducible rfl)
  try simp only [lq0,lq7,lq1,lq2,lq3,lq4,lq5,lq6]
  refine wpAnyT_take (i:=3) rfl (by kernel_rfl) (by kernel_rfl) (by kernel_rfl) (fun _ _ _ h=>h) (yieldsIf_load_mid (by rfl) 60 (.tmp 5) rfl wr.heap.size 0 rfl (vC x) _ (fun _ hb'=>hb'.box.range) rfl rfl (by kernel_rfl)) (by assumption) ?_;try simp only [lq0,lq7,lq1,lq2,lq3,lq4,lq5,lq6]
  refine wpAnyT_ready (rs:=[4]) (by kernel_rfl) (by simp) ?_;refine AllReadyT.cons rfl (fun K hK=>?_) AllReadyT.nil;go_simp;go_at_call 37
  refine (typeText_any x TB.out TI.out _ K7.out.laid).mono ?_;rintro e w8 ⟨rfl,hb⟩;have K8:=qh (K7.out.below hb);have F8:=qh (F7.out.trans (Fr.of hb K7.out.le));have X8:=qh (X7.out.below hb X7.out.lt);clear hb K7 F7 X7;unfold sv;go_wp2_with fail
  refine hK _ _ X8.out (fun hHeld=>?_);clear hK K;try simp only [lq0,lq7,lq1,lq2,lq3,lq4,lq5,lq6]
  refine wpAnyT_ready (rs:=[5]) (by kernel_rfl) (by simp) ?_;refine AllReadyT.cons rfl (fun K hK=>?_) AllReadyT.nil;go_simp;refine hK _ _ (X8.out.below (al1 w8 (.cells (List.map sv [x.name,[32,58,32],typeS x,[59,10]]).toArray 9)) X8.out.lt) (fun hHeld=>?_);clear hK K;try simp only [lq0,lq7,lq1,lq2,lq3,lq4,lq5,lq6]
  refine wpAnyT_ready (rs:=[6]) (by kernel_rfl) (by simp) ?_;refine AllReadyT.cons rfl (fun K hK=>?_) AllReadyT.nil;go_simp;go_at_call 35
  refine (put_new [x.name,[32,58,32],typeS x,[59,10]] (t:=x.name++[32,58,32]++typeS x++[59,10]) (by simp) K8.out (by simp) (by have:=HLX.out;simp only [List.length_append,List.length_cons,List.length_nil];omega)).mono ?_;rintro e w9 ⟨rfl,k9,f9⟩;have K9:=qh k9;have F9:=qh (F8.out.trans f9);have X9:=qh (X8.out.fr f9 NGX.out (by decide));clear k9 f9 K8 F8 X8;go_wp2_with fail
  refine hK _ _ X9.out (fun hHeld=>?_);clear hK K;try simp only [lq0,lq7,lq1,lq2,lq3,lq4,lq5,lq6]
  refine wpAnyT_done (by kernel_rfl) ?_ _;go_wp2_with (go_at_call 35;fail)
  refine (put_new [[69,78,68,95,86,65,82,10]] (t:=[69,78,68,95,86,65,82,10]) rfl K9.out (by decide) (by have:=HLX.out;simp only [List.length_append,List.length_cons,List.length_nil];omega)).mono ?_;rintro e w10 ⟨rfl,k9,f9⟩;have KA:=qh (show Wx B g (l++(t1++vaS x)) w10 by rw [HVA.out];simpa only [List.append_assoc] using k9);have FA:=qh (F9.out.trans f9);have w1':=W1.out;clear k9 f9 K9 F9 X9;go_wp2_with fail
  go_roundw
  case rel=>exact ⟨q+1,t1++vaS x,by have:=LT.out;omega,by go_num,HT2.out,KA.out,FA.out⟩
  case measure=>have:=LT.out;simp [intOf];omega
theorem show_any {p:Pg} {h:GH} {w:World} (hM:MaxL w) (hL:Laid w) (hp:PgAt w w.heap.size p h) (hin:inP p) (hW:wsS p.body≤big) (hlen:pgB p=true→(pgS p).length≤lim) :
  Calls Tryz.prog 8 #[.agg (gC h).toArray] w fun e w'=>e=.returned (.tuple #[sv (showP p).1,.int .i64 (showP p).2])∧Below w.heap.size w w':=by
 have RP:=qh fun W (hb:Below w.heap.size w W)=>rightProgram_any (hM.below hb) (PgAt.below hp hb hb.size) hW
 have HB:=qh (al1 w (.cells (gC h).toArray 25));have X1:=qh (Box.new w (gC h).toArray 25);have Z1:=qh (show (w.alloc (.cells (gC h).toArray 25)).heap.size=w.heap.size+1 by simp);have PP:=qh hp;have LL:=qh hL;have IN:=qh hin;have HLN:=qh hlen;have hbb:pgB p=true→p.vars.all vaB=true∧stsB p.body=true:=fun h=>by
  unfold pgB at h;simp only [Bool.and_eq_true] at h;exact h.2.2
 have BBB:=qh hbb;obtain ⟨R,hR⟩:∃ R,showP p=R:=⟨_,rfl⟩;rw [hR];have HR:=qh hR;have ht0:pgS p≠[]:=by unfold pgS;simp
 have HT0:=qh ht0;clear hM hL hp hin hW hlen hbb hR ht0;obtain ⟨u,hu⟩:∃ u,pgB p=u:=⟨_,rfl⟩;rw [hu] at RP;have HU:=qh hu;clear hu;go_enter Tryz.func8,Tryz.ntmps8
 go_upto_region 1 with (fail)
 generalize w.alloc (.cells (gC h).toArray 25)=w1 at *;have X1:Hid (Box w1 w.heap.size 0 (gC h)):=X1;go_wp2_with (first|((with_reducible refine m_load X1.out 25 1 ?_ ?_ ?_ ?_ ?_ ?_);rfl;rfl;rfl;rfl;kernel_rfl)|(go_at_call 14;fail))
 refine (RP.out _ HB.out).mono ?_;rintro e w2 ⟨rfl,hb⟩;have B2:=btr HB hb;have X2:=qh (X1.out.below hb (by have:=Z1.out;omega));have Z2:=qh (show w.heap.size<w2.heap.size by have:=Z1.out;have:=hb.size;omega);clear hb RP X1 HB Z1;cases u
 ·have hr:R=([],5):=by rw [←HR.out,showP,HU.out];rfl
  subst hr;go_wp2_with fail
  go_ret2
  exact ⟨rfl,B2.out⟩
 have K3:=qh (show Wx w2.heap.size w2.heap.size [] (w2.alloc (.cells #[.pointer none,.slice none 0 0] 55)) from
  ⟨Wr.new w2,by simp,(LL.out.below B2.out).below (al1 w2 _),laid_lt (LL.out.below B2.out)⟩)
 have B3:=qh (al1 w2 (.cells #[.pointer none,.slice none 0 0] 55));have P3:=qh (PgAt.below (PgAt.below PP.out B2.out B2.out.size) B3.out (Nat.le_refl _));have X3:=qh (X2.out.below B3.out Z2.out);have CP:=qh (program_any K3.out P3.out (BBB.out HU.out).1 (BBB.out HU.out).2 IN.out (by rw [List.length_nil];have:=HLN.out HU.out;omega));go_upto_region 4 with (fail)
 generalize w2.alloc (.cells #[.pointer none,.slice none 0 0] 55)=w3 at *;go_wp2_with (first|((with_reducible refine m_load X3.out 25 1 ?_ ?_ ?_ ?_ ?_ ?_);rfl;rfl;rfl;rfl;kernel_rfl)|(go_at_call 15;fail))
 refine CP.out.mono ?_;rintro e w4 ⟨rfl,k4,f4⟩;rw [List.nil_append] at k4;have K4:=qh k4;have B4:=qh (B2.out.trans ((B3.out.trans f4.1).mono B2.out.size));clear k4 f4 CP K3 B3 P3 X3 X2;go_wp2_with (go_at_call 16;fail)
 refine (len_any w2.heap.size w2.heap.size (pgS p) w4 K4.out.wr).mono ?_;rintro e w5 ⟨rfl,rfl⟩;by_cases h6:16384<(pgS p).length
 ·have h6':(16384:Int)<(pgS p).length:=by omega
  have hr:R=([],13):=by rw [←HR.out,showP,HU.out,if_pos rfl,if_pos h6]
  subst hr;clear h6;go_wp2_with fail
  go_ret2
  exact ⟨rfl,B4.out⟩
 have h6':¬ (16384:Int)<(pgS p).length:=by omega
 have hr:R=(pgS p,0):=by rw [←HR.out,showP,HU.out,if_pos rfl,if_neg h6]
 subst hr;clear h6;go_wp2_with (go_at_call 17;fail)
 refine (str_any w2.heap.size w2.heap.size (pgS p) w5 K4.out.wr HT0.out).mono ?_;rintro e w6 ⟨rfl,hb⟩;have B6:=qh (B4.out.trans (hb.mono B2.out.size));clear hb;go_wp2_with fail
 go_ret2
 exact ⟨rfl,B6.out⟩
theorem bs_SA (h:SH) (w:World):(Instr.buildSlice 23 1 #[(0,.agg (sC h).toArray)]).run Tryz.prog w=.ok (.slice (some ⟨w.heap.size,0,none⟩) 1 1) (w.alloc (.cells (sC h).toArray 49)):=by kernel_rfl
def awT:Str:=[80,82,79,71,82,65,77,32,112,10,97,32,58,61,32,40,49,32,43,32,40,45,98,41,41,59,10,69,78,68,95,80,82,79,71,82,65,77,10]
theorem awake_pgS:pgS awakeP=awT:=by kernel_rfl
theorem awake_show:showP awakeP=(awT,0):=by kernel_rfl
def hB:EH:=⟨3,0,[98],[],⟨none,0,0⟩,0⟩
def h1:EH:=⟨1,1,[],[],⟨none,0,0⟩,0⟩
def hN (g:Nat):EH:=⟨6,0,[],[],⟨some ⟨g,0,none⟩,1,1⟩,0⟩
def hA:EH:=⟨3,0,[97],[],⟨none,0,0⟩,0⟩
def hP (g:Nat):EH:=⟨8,0,[],[],⟨some ⟨g,0,none⟩,2,2⟩,0⟩
def hS (g:Nat):SH:=⟨1,[],hA,hP g,⟨none,0,0⟩,⟨none,0,0⟩,⟨none,0,0⟩,⟨none,0,0⟩,0⟩
theorem nil_rs {α:Type} {enc:α→List Value} {z:Nat} {w:World} {B:Nat}:RS enc z w B ⟨none,0,0⟩ []:=⟨rfl,Nat.le_refl _,(by show 0≤maxLen;unfold maxLen;omega),fun _=>rfl,fun h=>absurd h (by decide)⟩
theorem awake_any (w:World) (hM:MaxL w) (hL:Laid w):Calls Tryz.prog 6 #[] w fun e w'=>e=.returned (.bool true)∧Below w.heap.size w w':=by
 go_enter Tryz.func6,Tryz.ntmps6
 go_upto_region 2 with (first|((with_reducible refine m_slice1 (enc:=eC) (z:=6) hB 42 44 5 (.agg (eC hB).toArray) (eC hB).toArray ?_ ?_ ?_ (bs_E hB) ?_ ?_);rfl;rfl;rfl;rfl;intro w1 hrb hb1 hz1;have RB1:=qh hrb;have B1:=qh hb1;have Z1:=qh hz1;clear hrb hb1 hz1)|((with_reducible refine m_slice2 eC_len h1 (hN w.heap.size) 42 44 4 7 (.agg (eC h1).toArray) (.agg (eC (hN w.heap.size)).toArray) (eC h1++eC (hN w.heap.size)).toArray ?_ ?_ ?_ ?_ (bs_E2 h1 (hN w.heap.size)) ?_ ?_);rfl;rfl;rfl;rfl;rfl;intro w2 hrb hb1 hz1;have RB2:=qh hrb;have B2:=qh hb1;have Z2:=qh hz1;clear hrb hb1 hz1)|((with_reducible refine m_new 44 1 9 ?_ ?_ ?_ (eC (hP w1.heap.size)) ?_ ?_ ?_ ?_ (eC_one _) ?_);rfl;rfl;rfl;rfl;rfl;rfl;kernel_rfl;intro w3 hx hb hz;have X3:=qh hx;have B3:=qh hb;have Z3:=qh hz;clear hx hb hz))
 have X4:Hid (Box w3 w2.heap.size 0 [.int .i64 8,.int .i64 0,.string ⟨#[]⟩,.string ⟨#[]⟩,.slice (some ⟨w1.heap.size,0,none⟩) 2 2,.int .i64 0]):=X3;go_wp2_with (first|((with_reducible refine m_load X4.out 44 1 ?_ ?_ ?_ ?_ ?_ ?_);rfl;rfl;rfl;rfl;kernel_rfl)|((with_reducible refine m_slice1 (enc:=sC) (z:=19) (hS w1.heap.size) 23 49 13 (.agg (sC (hS w1.heap.size)).toArray) (sC (hS w1.heap.size)).toArray ?_ ?_ ?_ (bs_SA _) ?_ ?_);rfl;rfl;rfl;rfl;intro w4 hrb hb1 hz1;have RB4:=qh hrb;have B4:=qh hb1;have Z4:=qh hz1;clear hrb hb1 hz1)|(go_at_call 8;fail))
 have s1:=B1.out.size;have s2:=B2.out.size;have s3:=B3.out.size;have s4:=B4.out.size;have BA:=qh (((B1.out.trans (B2.out.mono s1)).trans (B3.out.mono (Nat.le_trans s1 s2))).trans (B4.out.mono (Nat.le_trans s1 (Nat.le_trans s2 s3))));have hp:PgAt w4 w4.heap.size awakeP ⟨[112],⟨none,0,0⟩,⟨some ⟨w3.heap.size,0,none⟩,1,1⟩⟩:=by
  have z1:=Z1.out;have z2:=Z2.out;have z3:=Z3.out;have z4:=Z4.out;have q14:=(B2.out.trans (B3.out.mono s2)).trans (B4.out.mono (Nat.le_trans s2 s3));have q24:=B3.out.trans (B4.out.mono s3);have e1:RS eC 6 w4 w4.heap.size ⟨some ⟨w.heap.size,0,none⟩,1,1⟩ [hB]:=(RS.below (RB1.out.toAt (B:=w1.heap.size) (fun b hb=>by rw [z1];exact hb.2)) q14 q14.size);have e2:RS eC 6 w4 w4.heap.size ⟨some ⟨w1.heap.size,0,none⟩,2,2⟩ [h1,hN w.heap.size]:=(RS.below (RB2.out.toAt (B:=w2.heap.size) (fun b hb=>by rw [z2];exact hb.2)) q24 q24.size);have e4:RS sC 19 w4 w4.heap.size ⟨some ⟨w3.heap.size,0,none⟩,1,1⟩ [hS w1.heap.size]:=RB4.out.toAt (B:=w4.heap.size) (fun b hb=>by rw [z4];exact hb.2);have n0:RS eC 6 w4 w4.heap.size ⟨none,0,0⟩ []:=nil_rs;refine ⟨rfl,nil_rs,[hS w1.heap.size],e4,hS w1.heap.size,[],rfl,?_,rfl⟩;refine ⟨rfl,rfl,rfl,⟨rfl,rfl,rfl,rfl,rfl,[],n0,rfl⟩,⟨rfl,rfl,rfl,rfl,rfl,[h1,hN w.heap.size],e2,h1,[hN w.heap.size],rfl,⟨rfl,rfl,rfl,rfl,rfl,[],n0,rfl⟩,hN w.heap.size,[],rfl,⟨rfl,rfl,rfl,rfl,rfl,[hB],e1,hB,[],rfl,⟨rfl,rfl,rfl,rfl,rfl,[],n0,rfl⟩,rfl⟩,rfl⟩,⟨[],n0,rfl⟩,⟨[],nil_rs,rfl⟩,nil_rs,⟨[],nil_rs,rfl⟩⟩
 have SX:=show_any (hM.below BA.out) (hL.below BA.out) hp (by constructor;(intro v hv;cases hv);exact ⟨⟨(by intro l hl;cases hl),trivial⟩,trivial⟩) (by decide) (fun _=>by rw [awake_pgS];decide);rw [awake_show] at SX;have SX:=qh SX;simp only [sv] at SX;clear hp s1 s2 s3 s4 RB1 RB2 RB4 X3 X4;refine SX.out.mono ?_;rintro e w9 ⟨rfl,hb⟩;have B9:=btr BA hb;clear hb SX BA;unfold awT;go_wp2_with fail
 go_ret
 exact ⟨rfl,B9.out⟩
end sh
namespace sh
open ChangeShapes WideShapes ChangeAt RowKit k rr tk tr
inductive It
 | gap (c:UInt8)
 | sg (k:Int) (t:Str) (n:Nat)
def It.txt:It→Str
 | .gap c=>[c]
 | .sg _ t _=>t
def itS:List It→Str
 | []=>[]
 | i::l=>i.txt++itS l
def sgs:List It→List (Int×Str×Int)
 | []=>[]
 | .gap _::l=>sgs l
 | .sg k t n::l=>(k,t,(n:Int))::sgs l
def tk3 (t:Tk):Int×Str×Int:=(t.kind,t.text,t.n)
def Fits (k:Int) (t:Str) (n:Nat) (r:Str):Prop:=t≠[]∧past (t++r)=(true,t++r)∧sgn (t++r)=(0,k,n,t.length)
def ItOk:List It→Prop
 | []=>True
 | .gap c::l=>(c=32∨c=10)∧ItOk l
 | .sg k t n::l=>Fits k t n (itS l)∧ItOk l
theorem itS_append:∀ a b:List It,itS (a++b)=itS a++itS b
 | [],b=>rfl
 | i::a,b=>by rw [List.cons_append,itS,itS,itS_append a b,List.append_assoc]
theorem sgs_append:∀ a b:List It,sgs (a++b)=sgs a++sgs b
 | [],b=>rfl
 | .gap c::a,b=>by rw [List.cons_append,sgs,sgs,sgs_append a b]
 | .sg k t n::a,b=>by rw [List.cons_append,sgs,sgs,sgs_append a b,List.cons_append]
theorem past_gap {c:UInt8} {r:Str} (h:c=32∨c=10):past (c::r)=past r:=by
 unfold past
 show pastF ((c::r).length+1) (c::r)=_
 rw [List.length_cons,pastF,if_pos (by rcases h with h|h<;>simp [h])]
def gaps:List It→List It
 | .gap _::l=>gaps l
 | l=>l
theorem past_items:∀ {l:List It},ItOk l→past (itS l)=(true,itS (gaps l))
 | [],_=>rfl
 | .gap c::l,h=>by
  rw [itS,gaps]
  show past (c::itS l)=_
  rw [past_gap h.1];exact past_items h.2
 | .sg k t n::l,h=>h.1.2.1
theorem gaps_ok:∀ {l:List It},ItOk l→ItOk (gaps l)∧sgs (gaps l)=sgs l∧(gaps l).length≤l.length
 | [],_=>⟨trivial,rfl,Nat.le_refl _⟩
 | .gap c::l,h=>by
  obtain ⟨a,b,c⟩:=gaps_ok h.2;exact ⟨a,by rw [gaps,b,sgs],by rw [gaps,List.length_cons];omega⟩
 | .sg k t n::l,h=>⟨h,rfl,Nat.le_refl _⟩
theorem gaps_head:∀ l:List It,gaps l=[]∨∃ k t n m,gaps l=.sg k t n::m
 | []=>Or.inl rfl
 | .gap c::l=>by rw [gaps];exact gaps_head l
 | .sg k t n::l=>Or.inr ⟨k,t,n,l,rfl⟩
theorem lexF_items (s:Str):∀ (f:Nat) (l:List It) (acc:List Tk),ItOk l→l.length<f→∃ M e,lexF s f (itS l) acc=(0,acc++M++[e],zeroT)∧M.map tk3=sgs l∧e.kind=0∧e.text=[]∧e.n=0
 | 0,l,acc,h,hf=>absurd hf (by omega)
 | f+1,l,acc,h,hf=>by
  obtain ⟨h1,h2,h3⟩:=gaps_ok h;rw [lexF];simp only [past_items h];rcases gaps_head l with hg|⟨k,t,n,m,hg⟩
  ·rw [hg] at h2 ⊢
   rw [if_neg (by decide),if_pos (show itS []=[] from rfl)];exact ⟨[],atP (plAt s []),by rw [List.append_nil],h2,rfl,rfl,rfl⟩
  ·rw [hg] at h1 h2 h3 ⊢
   obtain ⟨⟨ht,hp,hs⟩,hm⟩:=h1;have hne:itS (.sg k t n::m)≠[]:=by
    rw [itS];intro h0;exact ht (List.append_eq_nil_iff.1 h0).1
   have hs2:sgn (itS (.sg k t n::m))=(0,k,n,t.length):=hs;rw [if_neg (by decide),if_neg hne,hs2];simp only [if_true];have hd:(itS (.sg k t n::m)).drop t.length=itS m:=by
    rw [itS];exact List.drop_left
   have htk:(itS (.sg k t n::m)).take t.length=t:=by
    rw [itS];exact List.take_left
   rw [hd,htk];obtain ⟨M,e,a,b,c⟩:=lexF_items s f m (acc++[⟨k,t,n,(plAt s (itS (.sg k t n::m))).1,(plAt s (itS (.sg k t n::m))).2⟩]) hm (by rw [List.length_cons] at h3;omega);refine ⟨⟨k,t,n,(plAt s (itS (.sg k t n::m))).1,(plAt s (itS (.sg k t n::m))).2⟩::M,e,?_,?_,c⟩
   ·rw [a]
    simp only [List.append_assoc,List.cons_append,List.nil_append]
   ·rw [List.map_cons,b,←h2,sgs]
    rfl
theorem len_items:∀ {l:List It},ItOk l→l.length≤(itS l).length
 | [],_=>Nat.le_refl _
 | .gap c::l,h=>by
  have:=len_items h.2;rw [itS,List.length_cons,List.length_append]
  show l.length+1≤1+_
  omega
 | .sg k t n::l,h=>by
  have:=len_items h.2;have h0:0<t.length:=List.length_pos_iff.2 h.1.1;rw [itS,List.length_cons,List.length_append]
  show l.length+1≤t.length+_
  omega
theorem lex_items {l:List It} (h:ItOk l) (hs:(itS l).length≤16384):∃ M e,lex (itS l)=(0,M++[e],zeroT)∧M.map tk3=sgs l∧e.kind=0∧e.text=[]∧e.n=0:=by
 obtain ⟨M,e,a,b⟩:=lexF_items (itS l) ((itS l).length+1) l [] h (by have:=len_items h;omega);refine ⟨M,e,?_,b⟩;unfold lex;rw [if_neg (by omega),a,List.nil_append]
def HdNo (p:UInt8→Bool) (r:Str):Prop:=∀ c l,r=c::l→p c=false
theorem bodyLen_app:∀ {s r:Str},s.all bodyB=true→HdNo bodyB r→bodyLen (s++r)=s.length
 | [],[],_,_=>rfl
 | [],c::l,_,hr=>by
  have:=hr c l rfl
  show bodyLen (c::l)=0
  rw [bodyLen,if_neg (by rw [this];decide)]
 | a::s,r,h,hr=>by
  rw [List.all_cons,Bool.and_eq_true] at h;rw [List.cons_append,bodyLen,if_pos h.1,bodyLen_app h.2 hr,List.length_cons]
theorem fits_name {s r:Str} (h:nmB s=true) (hr:HdNo bodyB r):Fits 1 s 0 r:=by
 obtain ⟨c,l,rfl⟩:∃ c l,s=c::l:=by
  cases s with
  | nil=>cases h
  | cons c l=>exact ⟨c,l,rfl⟩
 have h2:(alphaB c&&((c::l).all bodyB&&(decide ((c::l).length≤16)&&!isWord (c::l))))=true:=h;simp only [Bool.and_eq_true,decide_eq_true_eq,Bool.not_eq_true'] at h2;obtain ⟨ha,hb,hl,hw⟩:=h2;refine ⟨by simp,alpha_past ha,?_⟩;have e:=bodyLen_app hb hr;rw [List.cons_append] at e ⊢;unfold sgn;simp only [ha,if_true,e];have ht:(c::(l++r)).take (c::l).length=c::l:=by rw [←List.cons_append];exact List.take_left
 rw [ht,hw,if_neg (by decide),if_neg (by omega)]
theorem fits_word {s r:Str} (hs:isWord s=true) (ha:∀ c l,s=c::l→alphaB c=true) (hn:s≠[]) (hb:s.all bodyB=true) (hr:HdNo bodyB r):Fits 2 s 0 r:=by
 obtain ⟨c,l,rfl⟩:∃ c l,s=c::l:=by
  cases s with
  | nil=>exact absurd rfl hn
  | cons c l=>exact ⟨c,l,rfl⟩
 have ha:=ha c l rfl;refine ⟨hn,alpha_past ha,?_⟩;have e:=bodyLen_app hb hr;rw [List.cons_append] at e ⊢;unfold sgn;simp only [ha,if_true,e];have ht:(c::(l++r)).take (c::l).length=c::l:=by rw [←List.cons_append];exact List.take_left
 rw [ht,hs,if_pos rfl]
def wordB (s:Str):Bool:=isWord s&&(s.all bodyB&&match s with
 | []=>false
 | c::_=>alphaB c)
theorem fits_wd {s r:Str} (h:wordB s=true) (hr:HdNo bodyB r):Fits 2 s 0 r:=by
 unfold wordB at h;simp only [Bool.and_eq_true] at h;obtain ⟨h1,h2,h3⟩:=h;refine fits_word h1 (fun c l e=>?_) (fun e=>?_) h2 hr
 ·subst e;exact h3
 ·subst e;cases h3
def afterB (t c:UInt8):Bool:=
 if t=40 then c != 42 else if t=47 then c != 47 else if t=58 then c != 61 else if t=60 then (c != 61&&c != 62) else if t=62 then c != 61 else if t=46 then c != 46 else true
theorem sign_one {c:UInt8} {r:Str} (h1:¬ (c=32∨c=10∨c=9)) (t1:two (c::r) 47 47=false) (t2:two (c::r) 40 42=false) (ha:alphaB c=false) (hn:numB c=false)
  (t3:two (c::r) 58 61=false) (t4:two (c::r) 60 61=false) (t5:two (c::r) 62 61=false) (t6:two (c::r) 60 62=false) (t7:two (c::r) 46 46=false) (hs:singles.contains c=true):Fits 4 [c] 0 r:=by
 refine ⟨by simp,?_,?_⟩
 ·show past (c::r)=(true,c::r)
  unfold past;rw [List.length_cons,pastF,if_neg h1,t1,t2];simp
 ·show sgn (c::r)=(0,4,0,1)
  have hl:signLen (c::r)=1:=by
   unfold signLen;rw [t3,t4,t5,t6,t7];simp only [Bool.or_self,hs,if_true];rfl
  unfold sgn;simp only [ha,hn,hl];rfl
theorem two_no {c a b:UInt8} {r:Str} (h:(c==a)=false):two (c::r) a b=false:=by
 cases r with
 | nil=>rfl
 | cons d l=>show (c==a&&d==b)=false;rw [h];rfl
theorem two_no' {c a b:UInt8} {r:Str} (h:∀ d l,r=d::l→(d==b)=false):two (c::r) a b=false:=by
 cases r with
 | nil=>rfl
 | cons d l=>show (c==a&&d==b)=false;rw [h d l rfl,Bool.and_false]
theorem ne_of {d b:UInt8} (h:(d != b)=true):(d==b)=false:=by
 rw [bne] at h;simpa using h
theorem fits_sg {c:UInt8} {r:Str} (hs:singles.contains c=true) (hr:∀ d l,r=d::l→afterB c d=true):Fits 4 [c] 0 r:=by
 have hm:c=43∨c=45∨c=42∨c=47∨c=40∨c=41∨c=91∨c=93∨c=46∨c=44∨c=59∨c=58∨c=60∨c=62∨c=61:=by
  simpa [singles] using hs
 rcases hm with rfl|rfl|rfl|rfl|rfl|rfl|rfl|rfl|rfl|rfl|rfl|rfl|rfl|rfl|rfl
 ·exact sign_one (by decide) (two_no rfl) (two_no rfl) rfl rfl (two_no rfl) (two_no rfl) (two_no rfl) (two_no rfl) (two_no rfl) rfl
 ·exact sign_one (by decide) (two_no rfl) (two_no rfl) rfl rfl (two_no rfl) (two_no rfl) (two_no rfl) (two_no rfl) (two_no rfl) rfl
 ·exact sign_one (by decide) (two_no rfl) (two_no rfl) rfl rfl (two_no rfl) (two_no rfl) (two_no rfl) (two_no rfl) (two_no rfl) rfl
 ·exact sign_one (by decide) (two_no' fun d l e=>ne_of (hr d l e)) (two_no rfl) rfl rfl (two_no rfl) (two_no rfl) (two_no rfl) (two_no rfl) (two_no rfl) rfl
 ·exact sign_one (by decide) (two_no rfl) (two_no' fun d l e=>ne_of (hr d l e)) rfl rfl (two_no rfl) (two_no rfl) (two_no rfl) (two_no rfl) (two_no rfl) rfl
 ·exact sign_one (by decide) (two_no rfl) (two_no rfl) rfl rfl (two_no rfl) (two_no rfl) (two_no rfl) (two_no rfl) (two_no rfl) rfl
 ·exact sign_one (by decide) (two_no rfl) (two_no rfl) rfl rfl (two_no rfl) (two_no rfl) (two_no rfl) (two_no rfl) (two_no rfl) rfl
 ·exact sign_one (by decide) (two_no rfl) (two_no rfl) rfl rfl (two_no rfl) (two_no rfl) (two_no rfl) (two_no rfl) (two_no rfl) rfl
 ·exact sign_one (by decide) (two_no rfl) (two_no rfl) rfl rfl (two_no rfl) (two_no rfl) (two_no rfl) (two_no rfl) (two_no' fun d l e=>ne_of (hr d l e)) rfl
 ·exact sign_one (by decide) (two_no rfl) (two_no rfl) rfl rfl (two_no rfl) (two_no rfl) (two_no rfl) (two_no rfl) (two_no rfl) rfl
 ·exact sign_one (by decide) (two_no rfl) (two_no rfl) rfl rfl (two_no rfl) (two_no rfl) (two_no rfl) (two_no rfl) (two_no rfl) rfl
 ·exact sign_one (by decide) (two_no rfl) (two_no rfl) rfl rfl (two_no' fun d l e=>ne_of (hr d l e)) (two_no rfl) (two_no rfl) (two_no rfl) (two_no rfl) rfl
 ·have h2:∀ d l,r=d::l→(d==61)=false∧(d==62)=false:=fun d l e=>by
   have:(d != 61&&d != 62)=true:=hr d l e;rw [Bool.and_eq_true] at this;exact ⟨ne_of this.1,ne_of this.2⟩
  exact sign_one (by decide) (two_no rfl) (two_no rfl) rfl rfl (two_no rfl) (two_no' fun d l e=>(h2 d l e).1) (two_no rfl) (two_no' fun d l e=>(h2 d l e).2) (two_no rfl) rfl
 ·exact sign_one (by decide) (two_no rfl) (two_no rfl) rfl rfl (two_no rfl) (two_no rfl) (two_no' fun d l e=>ne_of (hr d l e)) (two_no rfl) (two_no rfl) rfl
 ·exact sign_one (by decide) (two_no rfl) (two_no rfl) rfl rfl (two_no rfl) (two_no rfl) (two_no rfl) (two_no rfl) (two_no rfl) rfl
theorem fits_sg2 {t:Str} {r:Str} (ht:t=[58,61]∨t=[46,46]∨t=[60,62]∨t=[60,61]∨t=[62,61]):Fits 4 t 0 r:=by
 rcases ht with rfl|rfl|rfl|rfl|rfl
 all_goals
  refine ⟨by simp,?_,?_⟩
  ·unfold past
   rfl
  ·rfl
end sh
end Go.Proofs.YtdefgghhkknnpaaGreatDoor

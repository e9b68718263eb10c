/- The landed checks of expressions: whether a text could give them. Condition: the library's variable MaxLen holds some number. The landed checks of expressions, places and labels. Condition: the library's variable MaxLen holds some number. The landed checks of a statement's parts: how many there are of each. Conditions: what each line says. The library's strings.Builder in a writer that the call has made: WriteString, Len, String. Conditions: what each line says. The library's own contract of strconv.FormatInt at base 10, laid at this program. Its condition: the table of powers of ten lies as the library lays it. The landed writer's put: texts one behind the other. Conditions: the writer is one of the call's own; what it holds stays within 2^47 bytes. How many parts a program has. No condition. -/
import Derived.Test.YtdefgghhkknnpaaGreatDoorE07
import Derived.Lib.OthersKept
import Derived.Lib.UnsafeStr
import Derived.Lib.AppendStr
import Derived.Lib.Slices
import Derived.Laws.Externs
import Derived.Shelf.Strconv.Itoa4
import Derived.LaidMore
import Derived.Stop.Joined
import Derived.Lib.LaidTab
import Derived.Lib.ItoaMem
set_option linter.unusedVariables false
set_option linter.unusedSimpArgs false
set_option maxRecDepth 100000
set_option maxHeartbeats 40000000
namespace Go.Proofs.YtdefgghhkknnpaaGreatDoor
namespace sh
open ChangeShapes WideShapes ChangeAt RowKit k rr tk tr
theorem neb {a b:Int} (h:a≠b):(a==b)=false:=by rw [beq_eq_false_iff_ne];exact h
theorem str_no (s:Str) (xs:ByteArray) (h:(⟨s.toArray⟩:ByteArray)=xs):(xs.toList==[])=(s==[]):=by rw [←h,ByteArray.toList_eq]
theorem sv_list (s:Str):(⟨s.toArray⟩:ByteArray).data.toList=s:=rfl
theorem signOf_any (op:Int) (w:World):Calls Tryz.prog 127 #[.int .i64 op] w fun e w'=>e=.returned (sv (opS op))∧w'=w:=by
 rcases (show op=8∨op=9∨op=10∨op=11∨op=12∨op=13∨op=14∨op=15∨op=16∨op=17∨op=18∨op=19∨op=20∨op=21∨(op<8∨21<op) by omega) with rfl|rfl|rfl|rfl|rfl|rfl|rfl|rfl|rfl|rfl|rfl|rfl|rfl|rfl|h
 rotate_right 1
 ·have z8:=neb (show op≠8 by omega)
  have z9:=neb (show op≠9 by omega);have z10:=neb (show op≠10 by omega);have z11:=neb (show op≠11 by omega);have z12:=neb (show op≠12 by omega);have z13:=neb (show op≠13 by omega);have z14:=neb (show op≠14 by omega);have z15:=neb (show op≠15 by omega);have z16:=neb (show op≠16 by omega);have z17:=neb (show op≠17 by omega);have z18:=neb (show op≠18 by omega);have z19:=neb (show op≠19 by omega);have z20:=neb (show op≠20 by omega);have z21:=neb (show op≠21 by omega);have HE:Hid (opS op=[]):=qh (by
   unfold opS;rw [if_neg (by omega),if_neg (by omega),if_neg (by omega),if_neg (by omega),if_neg (by omega),if_neg (by omega),if_neg (by omega),if_neg (by omega),if_neg (by omega),if_neg (by omega),if_neg (by omega),if_neg (by omega),if_neg (by omega),if_neg (by omega)])
  clear h;go_enter Tryz.func127,Tryz.ntmps127
  go_wp2;go_ret
  rw [HE.out];exact ⟨rfl,rfl⟩
 all_goals
  go_enter Tryz.func127,Tryz.ntmps127
  go_wp2;go_ret
  exact ⟨rfl,rfl⟩
theorem signed_any (n:Int) (w:World):Calls Tryz.prog 86 #[.int .i64 n] w fun e w'=>e=.returned (.bool (n != -9223372036854775808))∧Below w.heap.size w w':=by
 go_enter Tryz.func86,Tryz.ntmps86
 go_wp2;go_ret
 exact ⟨rfl,Below.refl _ _⟩
theorem rightName_any (b:Bool) (s:Str) (w:World) (hM:MaxL w):Calls Tryz.prog 122 #[sv s,.bool b] w fun e w'=>e=.returned (.bool (nameB b s))∧Below w.heap.size w w':=by
 have HI:=qh (isName_any ⟨s.toArray⟩ w hM);rw [sv_list] at HI;unfold sv;have hs:=str_no s _ rfl;generalize (⟨s.toArray⟩:ByteArray)=xs at *;unfold nameB;clear hM;cases b
 ·rw [if_neg (by decide)]
  generalize (s==[])=u at *;clear HI;go_enter Tryz.func122,Tryz.ntmps122
  go_wp2;go_ret
  exact ⟨rfl,Below.refl _ _⟩
 ·rw [if_pos rfl]
  clear hs;go_enter Tryz.func122,Tryz.ntmps122
  go_wp2_with (go_at_call 31;fail)
  refine HI.out.mono ?_;rintro e w1 ⟨rfl,hb⟩;have B1:=qh hb;clear hb HI;go_wp2_with fail
  go_ret
  exact ⟨rfl,B1.out⟩
def inE (op:Int):Bool:=decide (1≤op)&&decide (op≤21)
def shC (op:Int):Array Value:=if inE op=true then #[.int .i64 (mostE op),.bool (namedE op),.bool (fieldE op),.int .i64 (subsE op)] else #[.int .i64 0,.bool false,.bool false,.int .i64 0]
theorem inE_if (op:Int) (h:1≤op∧op≤21):inE op=true:=by simp [inE,h.1,h.2]
theorem shapeOf_any (op:Int) (w:World):Calls Tryz.prog 121 #[.int .i64 op] w fun e w'=>e=.returned (.tuple #[.agg (shC op),.bool (inE op)])∧Below w.heap.size w w':=by
 have HS:=qh fun W=>signOf_any op W
 unfold sv at HS;rcases (show op=1∨op=2∨op=3∨op=4∨op=5∨op=6∨op=7∨(op<1∨7<op) by omega) with rfl|rfl|rfl|rfl|rfl|rfl|rfl|h
 ·clear HS
  go_enter Tryz.func121,Tryz.ntmps121
  go_wp2;have hx:=Box.new w #[.int .i64 9223372036854775807,.bool false,.bool false,.int .i64 0] 161;have hb:=(Below.refl w.heap.size w).alloc (Nat.le_refl _) (.cells #[.int .i64 9223372036854775807,.bool false,.bool false,.int .i64 0] 161);refine bodyPost_ret (k.results_cell_tmp rfl rfl (run_loadVar_mid _ w.heap.size 0 161 _ _ hx.range rfl rfl (by kernel_rfl))) rfl ?_;exact ⟨rfl,hb⟩
 ·clear HS
  go_enter Tryz.func121,Tryz.ntmps121
  go_wp2;have hx:=Box.new w #[.int .i64 1,.bool false,.bool false,.int .i64 0] 161;have hb:=(Below.refl w.heap.size w).alloc (Nat.le_refl _) (.cells #[.int .i64 1,.bool false,.bool false,.int .i64 0] 161);refine bodyPost_ret (k.results_cell_tmp rfl rfl (run_loadVar_mid _ w.heap.size 0 161 _ _ hx.range rfl rfl (by kernel_rfl))) rfl ?_;exact ⟨rfl,hb⟩
 ·clear HS
  go_enter Tryz.func121,Tryz.ntmps121
  go_wp2;have hx:=Box.new w #[.int .i64 0,.bool true,.bool false,.int .i64 0] 161;have hb:=(Below.refl w.heap.size w).alloc (Nat.le_refl _) (.cells #[.int .i64 0,.bool true,.bool false,.int .i64 0] 161);refine bodyPost_ret (k.results_cell_tmp rfl rfl (run_loadVar_mid _ w.heap.size 0 161 _ _ hx.range rfl rfl (by kernel_rfl))) rfl ?_;exact ⟨rfl,hb⟩
 ·clear HS
  go_enter Tryz.func121,Tryz.ntmps121
  go_wp2;have hx:=Box.new w #[.int .i64 0,.bool true,.bool false,.int .i64 1] 161;have hb:=(Below.refl w.heap.size w).alloc (Nat.le_refl _) (.cells #[.int .i64 0,.bool true,.bool false,.int .i64 1] 161);refine bodyPost_ret (k.results_cell_tmp rfl rfl (run_loadVar_mid _ w.heap.size 0 161 _ _ hx.range rfl rfl (by kernel_rfl))) rfl ?_;exact ⟨rfl,hb⟩
 ·clear HS
  go_enter Tryz.func121,Tryz.ntmps121
  go_wp2;have hx:=Box.new w #[.int .i64 0,.bool true,.bool true,.int .i64 0] 161;have hb:=(Below.refl w.heap.size w).alloc (Nat.le_refl _) (.cells #[.int .i64 0,.bool true,.bool true,.int .i64 0] 161);refine bodyPost_ret (k.results_cell_tmp rfl rfl (run_loadVar_mid _ w.heap.size 0 161 _ _ hx.range rfl rfl (by kernel_rfl))) rfl ?_;exact ⟨rfl,hb⟩
 ·clear HS
  go_enter Tryz.func121,Tryz.ntmps121
  go_wp2;have hx:=Box.new w #[.int .i64 0,.bool false,.bool false,.int .i64 1] 161;have hb:=(Below.refl w.heap.size w).alloc (Nat.le_refl _) (.cells #[.int .i64 0,.bool false,.bool false,.int .i64 1] 161);refine bodyPost_ret (k.results_cell_tmp rfl rfl (run_loadVar_mid _ w.heap.size 0 161 _ _ hx.range rfl rfl (by kernel_rfl))) rfl ?_;exact ⟨rfl,hb⟩
 ·clear HS
  go_enter Tryz.func121,Tryz.ntmps121
  go_wp2;have hx:=Box.new w #[.int .i64 0,.bool false,.bool false,.int .i64 1] 161;have hb:=(Below.refl w.heap.size w).alloc (Nat.le_refl _) (.cells #[.int .i64 0,.bool false,.bool false,.int .i64 1] 161);refine bodyPost_ret (k.results_cell_tmp rfl rfl (run_loadVar_mid _ w.heap.size 0 161 _ _ hx.range rfl rfl (by kernel_rfl))) rfl ?_;exact ⟨rfl,hb⟩
 ·have z1:=neb (show op≠1 by omega)
  have z2:=neb (show op≠2 by omega);have z3:=neb (show op≠3 by omega);have z4:=neb (show op≠4 by omega);have z5:=neb (show op≠5 by omega);have z6:=neb (show op≠6 by omega);have z7:=neb (show op≠7 by omega);by_cases h21:8≤op∧op≤21
  ·have HSH:Hid (shC op=#[.int .i64 0,.bool false,.bool false,.int .i64 2]∧inE op=true):=qh (by
    refine ⟨?_,inE_if op (by omega)⟩;unfold shC mostE namedE fieldE subsE;rw [if_pos (inE_if op (by omega)),if_neg (by omega),if_neg (by omega),if_neg (by omega),if_pos (by omega),z3,z4,z5];rfl)
   have hne:((⟨(opS op).toArray⟩:ByteArray).toList==[])=false:=by
    rw [ByteArray.toList_eq];rcases (show op=8∨op=9∨op=10∨op=11∨op=12∨op=13∨op=14∨op=15∨op=16∨op=17∨op=18∨op=19∨op=20∨op=21 by omega) with rfl|rfl|rfl|rfl|rfl|rfl|rfl|rfl|rfl|rfl|rfl|rfl|rfl|rfl<;>rfl
   clear h h21;generalize (⟨(opS op).toArray⟩:ByteArray)=xs at *;go_enter Tryz.func121,Tryz.ntmps121
   go_wp2_with (go_at_call 127;fail)
   refine (HS.out _).mono ?_;rintro e w2 ⟨rfl,rfl⟩;go_wp2_with fail
   have hx:=Box.new w #[.int .i64 0,.bool false,.bool false,.int .i64 2] 161;have hb:=(Below.refl w.heap.size w).alloc (Nat.le_refl _) (.cells #[.int .i64 0,.bool false,.bool false,.int .i64 2] 161);refine bodyPost_ret (k.results_cell_tmp rfl rfl (run_loadVar_mid _ w.heap.size 0 161 _ _ hx.range rfl rfl (by kernel_rfl))) rfl ?_;rw [HSH.out.1,HSH.out.2];exact ⟨rfl,hb⟩
  ·have HSH:Hid (shC op=#[.int .i64 0,.bool false,.bool false,.int .i64 0]∧inE op=false):=qh (by
    have:inE op=false:=by
     unfold inE;rw [Bool.and_eq_false_iff,decide_eq_false_iff_not,decide_eq_false_iff_not];omega
    refine ⟨?_,this⟩;unfold shC;rw [this];rfl)
   have hne:((⟨(opS op).toArray⟩:ByteArray).toList==[])=true:=by
    rw [ByteArray.toList_eq];unfold opS;rw [if_neg (by omega),if_neg (by omega),if_neg (by omega),if_neg (by omega),if_neg (by omega),if_neg (by omega),if_neg (by omega),if_neg (by omega),if_neg (by omega),if_neg (by omega),if_neg (by omega),if_neg (by omega),if_neg (by omega),if_neg (by omega)];rfl
   clear h h21;generalize (⟨(opS op).toArray⟩:ByteArray)=xs at *;go_enter Tryz.func121,Tryz.ntmps121
   go_wp2_with (go_at_call 127;fail)
   refine (HS.out _).mono ?_;rintro e w2 ⟨rfl,rfl⟩;go_wp2_with fail
   have hx:=Box.new w #[.int .i64 0,.bool false,.bool false,.int .i64 0] 161;have hb:=(Below.refl w.heap.size w).alloc (Nat.le_refl _) (.cells #[.int .i64 0,.bool false,.bool false,.int .i64 0] 161);refine bodyPost_ret (k.results_cell_tmp rfl rfl (run_loadVar_mid _ w.heap.size 0 161 _ _ hx.range rfl rfl (by kernel_rfl))) rfl ?_;rw [HSH.out.1,HSH.out.2];exact ⟨rfl,hb⟩
theorem missing_any {x:Ex} {h:EH} {w:World} {B:Nat} (hx:ExAt w B x h):Calls Tryz.prog 119 #[.agg (eC h).toArray] w fun e w'=>e=.returned (.bool (noE x))∧Below w.heap.size w w':=by
 obtain ⟨xo,xn,xs,xf,xsub,xl⟩:=x;obtain ⟨o,n,s,f,⟨A,l,c⟩,ln⟩:=h;unfold ExAt at hx;obtain ⟨rfl,rfl,rfl,rfl,rfl,H,hR,hE⟩:=hx;have hl:xsub.length=l:=hE.len.symm.trans hR.1
 show Calls _ _ _ _ fun e w'=>e=.returned (.bool (noE (.mk o n s f xsub ln)))∧_
 rw [noE,hl];have t3:=str_no s _ rfl;have t4:=str_no f _ rfl;have t5:((l:Int)==0)=(l==0):=by
  rw [Bool.eq_iff_iff,beq_iff_eq,beq_iff_eq];omega
 clear hR hE hl;simp only [eC,sv,Sl.v];have hb:=(Below.refl w.heap.size w).alloc (Nat.le_refl _) (.cells #[.int .i64 o,.int .i64 n,.string ⟨s.toArray⟩,.string ⟨f.toArray⟩,.slice A l c,.int .i64 ln] 44);have BB:=qh hb;clear hb;generalize (⟨s.toArray⟩:ByteArray)=xs at *;generalize (⟨f.toArray⟩:ByteArray)=xf at *;generalize (s==[])=u3 at *;generalize (f==[])=u4 at *;generalize (l==0)=u5 at *;obtain ⟨u1,hu1⟩:∃ u,(o==0)=u:=⟨_,rfl⟩;obtain ⟨u2,hu2⟩:∃ u,(n==0)=u:=⟨_,rfl⟩;rw [hu1,hu2];go_enter Tryz.func119,Tryz.ntmps119
 cases u1
 ·go_wp2_with fail
  go_ret
  exact ⟨rfl,BB.out⟩
 cases u2
 ·go_wp2_with fail
  go_ret
  exact ⟨rfl,BB.out⟩
 cases u3
 ·go_wp2_with fail
  go_ret
  exact ⟨rfl,BB.out⟩
 cases u4
 ·go_wp2_with fail
  go_ret
  exact ⟨rfl,BB.out⟩
 ·go_wp2_with fail
  go_ret
  exact ⟨rfl,BB.out⟩
theorem at_size {α:Type} [SizeOf α] {L:List α} {i:Nat} {x:α} (h:L[i]?=some x):SizeOf.sizeOf x<SizeOf.sizeOf L:=List.sizeOf_lt_of_mem (List.mem_of_getElem? h)
theorem at_get {α:Type} {f:α→Bool} {L:List α} {i:Nat} {x:α} (h:L[i]?=some x):(L[i]?.map f).getD false=f x:=by rw [h];rfl
theorem exsB_at {L:List Ex} {i:Nat} (h:i<L.length):exsB (L.drop i)=((L[i]?.map exB).getD false&&exsB (L.drop (i+1))):=by
 rw [List.drop_eq_getElem_cons h,exsB,List.getElem?_eq_getElem h];rfl
def RiE (N:Nat):Prop:=∀ x:Ex,SizeOf.sizeOf x<N→∀ (h:EH) (w:World),MaxL w→ExAt w w.heap.size x h→Calls Tryz.prog 90 #[.agg (eC h).toArray] w fun e w'=>e=.returned (.bool (exB x))∧Below w.heap.size w w'
theorem exl_right {N:Nat} (IH:RiE N) {L:List Ex} (hN:SizeOf.sizeOf L≤N) {s:Sl} {w:World} (hM:MaxL w) (h1:ExL w w.heap.size s L) :
  Calls Tryz.prog 91 #[s.v,.func (.func 90) #[] #[]] w fun e w'=>e=.returned (.bool (exsB L))∧Below w.heap.size w w':=by
 obtain ⟨H,h1,h3⟩:=h1;have l1:L.length=s.l:=h3.len.symm.trans h1.1;refine all_e h1 (fun i=>exsB (L.drop i)) (fun i=>(L[i]?.map exB).getD false) _ rfl ?_ (fun i hi=>exsB_at (by omega)) (fun i a ha W hW=>?_)
 ·show exsB (L.drop s.l)=true
  rw [List.drop_of_length_le (by omega)];rfl
 ·obtain ⟨x,hx,hxa⟩:=h3.at ha
  rw [at_get hx];exact IH x (by have:=at_size hx;omega) a W (hM.below hW) (hxa.below hW hW.size)
theorem right_e_step {N:Nat} (IH:RiE N):RiE (N+1):=by
 unfold RiE;intro x hN h w hM hx;obtain ⟨xo,xn,xs,xf,xsub,xl⟩:=x;obtain ⟨o,n,s,f,⟨A,l,c⟩,ln⟩:=h;unfold ExAt at hx;obtain ⟨rfl,rfl,rfl,rfl,rfl,H,hR,hE⟩:=hx;have hl:xsub.length=l:=hE.len.symm.trans hR.1;have hx:ExL w w.heap.size ⟨A,l,c⟩ xsub:=⟨H,hR,hE⟩
 show Calls _ _ _ _ fun e w'=>e=.returned (.bool (exB (.mk o n s f xsub ln)))∧_
 have hsz:SizeOf.sizeOf xsub≤N:=by
  simp only [Ex.mk.sizeOf_spec] at hN;omega
 obtain ⟨u6,hu6⟩:∃ u,exsB xsub=u:=⟨_,rfl⟩;have SC:=qh (show ∀ W,Below w.heap.size w W→Calls Tryz.prog 91 #[.slice A l c,.func (.func 90) #[] #[]] W fun e w'=>e=.returned (.bool u6)∧Below W.heap.size W w' from fun W hW=>by
  have h:=exl_right IH hsz (hM.below hW) (hx.below hW hW.size);rw [hu6] at h;exact h)
 rw [exB,hu6,hl];have NA:=qh (show ∀ W,Below w.heap.size w W→Calls Tryz.prog 122 #[sv s,.bool (namedE o)] W fun e w'=>e=.returned (.bool (nameB (namedE o) s))∧Below W.heap.size W w' from fun W hW=>rightName_any _ s W (hM.below hW));have NF:=qh (show ∀ W,Below w.heap.size w W→Calls Tryz.prog 122 #[sv f,.bool (fieldE o)] W fun e w'=>e=.returned (.bool (nameB (fieldE o) f))∧Below W.heap.size W w' from fun W hW=>rightName_any _ f W (hM.below hW));have SH:=qh fun W=>shapeOf_any o W
 unfold exOk;have hin:(decide (1≤o)&&decide (o≤21))=inE o:=rfl;rw [hin];unfold shC at SH;have t5:((l:Int)==(subsE o:Int))=(l==subsE o):=by
  rw [Bool.eq_iff_iff,beq_iff_eq,beq_iff_eq];omega
 simp only [eC,sv,Sl.v];unfold sv at NA NF;have hb:=(Below.refl w.heap.size w).alloc (Nat.le_refl _) (.cells #[.int .i64 o,.int .i64 n,.string ⟨s.toArray⟩,.string ⟨f.toArray⟩,.slice A l c,.int .i64 ln] 44);have hx1:=Box.new w #[.int .i64 o,.int .i64 n,.string ⟨s.toArray⟩,.string ⟨f.toArray⟩,.slice A l c,.int .i64 ln] 44;have hz1:(w.alloc (.cells #[.int .i64 o,.int .i64 n,.string ⟨s.toArray⟩,.string ⟨f.toArray⟩,.slice A l c,.int .i64 ln] 44)).heap.size=w.heap.size+1:=by simp
 have B1:=qh hb;have X1:=qh hx1;have Z1:=qh hz1;clear hb hx1 hz1 hR hE hl hx hN hsz hu6 IH hM hin;generalize (⟨s.toArray⟩:ByteArray)=xs at *;generalize (⟨f.toArray⟩:ByteArray)=xf at *;obtain ⟨u3,hu3⟩:∃ u,nameB (namedE o) s=u:=⟨_,rfl⟩;obtain ⟨u4,hu4⟩:∃ u,nameB (fieldE o) f=u:=⟨_,rfl⟩;rw [hu3] at NA ⊢;rw [hu4] at NF ⊢;clear hu3 hu4;generalize mostE o=m at *;generalize namedE o=nb at *;generalize fieldE o=fb at *;generalize subsE o=k at *;obtain ⟨u5,hu5⟩:∃ u,(l==k)=u:=⟨_,rfl⟩;rw [hu5] at t5 ⊢;obtain ⟨ui,hui⟩:∃ u,inE o=u:=⟨_,rfl⟩;rw [hui] at SH ⊢;clear hu5 hui;obtain ⟨R,hR⟩:∃ R,(ui&&(decide (0≤n)&&(decide (n≤m)&&(u3&&(u4&&u5))))&&u6)=R:=⟨_,rfl⟩;rw [hR];have HR:=qh hR;clear hR;go_enter Tryz.func90,Tryz.ntmps90
 go_upto_region 1 with (fail)
 generalize w.alloc (.cells #[.int .i64 o,.int .i64 n,.string xs,.string xf,.slice A l c,.int .i64 ln] 44)=w1 at *;have ⟨c0,_,c1,_,c2,_,c3,_,c4,_,_⟩:=X1.out;go_wp2_with (go_at_call 121;fail)
 refine (SH.out _).mono ?_;rintro e w2 ⟨rfl,hb2⟩;have B2:=btr B1 hb2;have X2:=qh (X1.out.below hb2 (by have:=Z1.out;omega));have Z2:=qh (show w.heap.size<w2.heap.size by have:=Z1.out;have:=hb2.size;omega);clear hb2 SH X1 c0 c1 c2 c3 c4 B1 Z1;cases ui
 ·have HF:=qh (show R=false by rw [←HR.out];simp)
  rw [if_neg (by decide)];have ⟨c0,_,c1,_,c2,_,c3,_,c4,_,_⟩:=X2.out;go_upto_region 2 with (fail)
  have hb:=(Below.refl w2.heap.size w2).alloc (Nat.le_refl _) (.cells #[.int .i64 0,.bool false,.bool false,.int .i64 0] 161);have B3:=btr B2 hb;clear hb;go_wp2_with fail
  go_ret
  exact ⟨ret_bool HF.out.symm,B3.out⟩
 rw [if_pos rfl];go_upto_region 2 with (fail)
 have hb:=(Below.refl w2.heap.size w2).alloc (Nat.le_refl _) (.cells #[.int .i64 m,.bool nb,.bool fb,.int .i64 k] 161);have hx:=Box.new w2 #[.int .i64 m,.bool nb,.bool fb,.int .i64 k] 161;have hz:(w2.alloc (.cells #[.int .i64 m,.bool nb,.bool fb,.int .i64 k] 161)).heap.size=w2.heap.size+1:=by simp
 generalize w2.alloc (.cells #[.int .i64 m,.bool nb,.bool fb,.int .i64 k] 161)=w3 at *;have B3:=btr B2 hb;have X3:=qh (X2.out.below hb Z2.out);have Y3:=qh hx;have Z3:=qh (And.intro hz Z2.out);clear hb hx hz X2 B2;have ⟨c0,_,c1,_,c2,_,c3,_,c4,_,_⟩:=X3.out;have ⟨d0,_,d1,_,d2,_,d3,_,_⟩:=Y3.out;by_cases h0:0≤n
 rotate_left
 ·have HF:=qh (show R=false by rw [←HR.out,decide_eq_false h0];simp)
  go_wp2_with fail
  go_ret
  exact ⟨ret_bool HF.out.symm,B3.out⟩
 by_cases h1:n≤m
 rotate_left
 ·have HF:=qh (show R=false by rw [←HR.out,decide_eq_false h1];simp)
  go_wp2_with fail
  go_ret
  exact ⟨ret_bool HF.out.symm,B3.out⟩
 have HR2:=qh (show (u3&&(u4&&u5)&&u6)=R by rw [←HR.out,decide_eq_true h0,decide_eq_true h1];simp);clear HR;have NA1:=qh (NA.out w3 B3.out);clear NA;go_wp2_with (go_at_call 122;fail)
 refine NA1.out.mono ?_;rintro e w4 ⟨rfl,hb⟩;have B4:=btr B3 hb;have X4:=qh (X3.out.below hb (by have:=Z3.out;omega));have Y4:=qh (Y3.out.below hb (by have:=Z3.out;omega));have Z4:=qh (show w.heap.size<w4.heap.size∧w2.heap.size<w4.heap.size by have:=Z3.out;have:=hb.size;omega);clear hb NA1 X3 Y3 B3 Z3 c0 c1 c2 c3 c4 d0 d1 d2 d3;have ⟨c0,_,c1,_,c2,_,c3,_,c4,_,_⟩:=X4.out;have ⟨d0,_,d1,_,d2,_,d3,_,_⟩:=Y4.out;cases u3
 ·have HF:=qh (show R=false by rw [←HR2.out];simp)
  go_wp2_with fail
  go_ret
  exact ⟨ret_bool HF.out.symm,B4.out⟩
 have NF1:=qh (NF.out w4 B4.out);clear NF;go_wp2_with (go_at_call 122;fail)
 refine NF1.out.mono ?_;rintro e w5 ⟨rfl,hb⟩;have B5:=btr B4 hb;have X5:=qh (X4.out.below hb Z4.out.1);have Y5:=qh (Y4.out.below hb Z4.out.2);clear hb NF1 X4 Y4 B4 c0 c1 c2 c3 c4 d0 d1 d2 d3;have ⟨c0,_,c1,_,c2,_,c3,_,c4,_,_⟩:=X5.out;have ⟨d0,_,d1,_,d2,_,d3,_,_⟩:=Y5.out;cases u4
 ·have HF:=qh (show R=false by rw [←HR2.out];simp)
  go_wp2_with fail
  go_ret
  exact ⟨ret_bool HF.out.symm,B5.out⟩
 cases u5
 ·have HF:=qh (show R=false by rw [←HR2.out];simp)
  go_wp2_with fail
  go_ret
  exact ⟨ret_bool HF.out.symm,B5.out⟩
 have CX:=qh (SC.out w5 B5.out);have HF:=qh (show u6=R by rw [←HR2.out];simp);clear SC;go_wp2_with (go_at_call 91;fail)
 refine CX.out.mono ?_;rintro e w6 ⟨rfl,hb⟩;have B6:=btr B5 hb;clear hb CX;go_wp2_with fail
 go_ret
 exact ⟨ret_bool HF.out,B6.out⟩
theorem right_e_all:∀ N,RiE N
 | 0=>fun _ h=>absurd h (by omega)
 | N+1=>right_e_step (right_e_all N)
theorem right_e {x:Ex} {h:EH} {w:World} (hM:MaxL w) (hx:ExAt w w.heap.size x h):Calls Tryz.prog 90 #[.agg (eC h).toArray] w fun e w'=>e=.returned (.bool (exB x))∧Below w.heap.size w w':=
 right_e_all (SizeOf.sizeOf x+1) x (by omega) h w hM hx
theorem right_el {L:List Ex} {s:Sl} {w:World} (hM:MaxL w) (h1:ExL w w.heap.size s L) :
  Calls Tryz.prog 91 #[s.v,.func (.func 90) #[] #[]] w fun e w'=>e=.returned (.bool (exsB L))∧Below w.heap.size w w':=
 exl_right (right_e_all (SizeOf.sizeOf L)) (Nat.le_refl _) hM h1
theorem al1 (w:World) (o:Obj):Below w.heap.size w (w.alloc o):=(Below.refl _ _).alloc (Nat.le_refl _) o
theorem al2 (w:World) (o p:Obj):Below w.heap.size w ((w.alloc o).alloc p):=(al1 w o).trans ((al1 _ p).mono (by simp))
theorem al3 (w:World) (o p q:Obj):Below w.heap.size w (((w.alloc o).alloc p).alloc q):=(al2 w o p).trans ((al1 _ q).mono (by simp;omega))
def ptC (h:Pt):List Value:=[.int .i64 h.nm,.int .i64 h.dst,.int .i64 h.val,.int .i64 h.cs,.int .i64 h.ls,.int .i64 h.fs,.int .i64 h.bs]
theorem ptC_one (h:Pt):∀ u∈ptC h,u.oneCell'=true:=by
 intro u hu;simp only [ptC,List.mem_cons,List.not_mem_nil,or_false] at hu;rcases hu with rfl|rfl|rfl|rfl|rfl|rfl|rfl<;>rfl
theorem int_eq (d:Nat) (x y:Int) (w:World):(Op.equalIn (d+1) 3 (.int .i64 x) (.int .i64 y)).run Tryz.prog w=.ok (x==y) w:=run_equalIn_int w d _ _ _ x y Tryz.underlying3
theorem int_part (xs:Array Value) (o:Nat) (v:Value) (w:World) (h:xs[o]?=some v):(part 3 xs o).run Tryz.prog w=.ok v w:=run_part_plain w (by kernel_rfl) h
theorem pt_run (a0 a1 a2 a3 a4 a5 a6 b0 b1 b2 b3 b4 b5 b6:Int) (w:World):(binOp .eql 136 (.agg #[.int .i64 a0,.int .i64 a1,.int .i64 a2,.int .i64 a3,.int .i64 a4,.int .i64 a5,.int .i64 a6]) (.agg #[.int .i64 b0,.int .i64 b1,.int .i64 b2,.int .i64 b3,.int .i64 b4,.int .i64 b5,.int .i64 b6])).run Tryz.prog w=.ok (.bool (a0==b0&&(a1==b1&&(a2==b2&&(a3==b3&&(a4==b4&&(a5==b5&&a6==b6))))))) w:=by
 have hu:=run_underlying (w:=w) Tryz.underlying136;have hs:Tryz.prog.stoodInHeld 136=false:=by kernel_rfl
 have h:=int_eq 9998;simp only [binOp,Op.equal,Op.maxDepth];rw [show (10000:Nat)=9999+1 from rfl,Op.equalIn];simp [hu,hs,h,int_part,part]
 (repeat' split)<;>simp_all
theorem pt_dec (h a:Pt):((h.nm:Int)==a.nm&&((h.dst:Int)==a.dst&&((h.val:Int)==a.val&&((h.cs:Int)==a.cs&&((h.ls:Int)==a.ls&&((h.fs:Int)==a.fs&&(h.bs:Int)==a.bs))))))=decide (h=a):=by
 obtain ⟨a0,a1,a2,a3,a4,a5,a6⟩:=h;obtain ⟨b0,b1,b2,b3,b4,b5,b6⟩:=a;rw [Bool.eq_iff_iff];simp only [Bool.and_eq_true,beq_iff_eq,decide_eq_true_eq,Pt.mk.injEq];omega
theorem withElse_any (h a:Pt) (hb:a.bs<9223372036854775807) (w:World):Calls Tryz.prog 120 #[.agg (ptC h).toArray,.agg (ptC a).toArray] w fun e w'=>e=.returned (.bool (elseB h a))∧Below w.heap.size w w':=by
 have hw1:wrap64 ((a.bs:Int)+1)=((a.bs+1:Nat):Int):=by unfold wrap64;omega
 have E1:=pt_dec h a;have E2:=pt_dec h {a with bs:=a.bs+1};obtain ⟨a0,a1,a2,a3,a4,a5,a6⟩:=h;obtain ⟨b0,b1,b2,b3,b4,b5,b6⟩:=a;unfold elseB;simp only at hw1 E1 E2 ⊢;have PE:=pt_run;obtain ⟨v1,h1⟩:∃ v,decide ((⟨a0,a1,a2,a3,a4,a5,a6⟩:Pt)=⟨b0,b1,b2,b3,b4,b5,b6⟩)=v:=⟨_,rfl⟩;obtain ⟨v2,h2⟩:∃ v,decide ((⟨a0,a1,a2,a3,a4,a5,a6⟩:Pt)=⟨b0,b1,b2,b3,b4,b5,b6+1⟩)=v:=⟨_,rfl⟩;rw [h1] at E1 ⊢;rw [h2] at E2 ⊢;clear h1 h2 hb;simp only [ptC];generalize (a0:Int)=a0 at *;generalize (a1:Int)=a1 at *;generalize (a2:Int)=a2 at *;generalize (a3:Int)=a3 at *;generalize (a4:Int)=a4 at *;generalize (a5:Int)=a5 at *;generalize (a6:Int)=a6 at *;generalize (b0:Int)=b0 at *;generalize (b1:Int)=b1 at *;generalize (b2:Int)=b2 at *;generalize (b3:Int)=b3 at *;generalize (b4:Int)=b4 at *;generalize (b5:Int)=b5 at *;generalize ((b6+1:Nat):Int)=c6 at *;generalize (b6:Int)=b6 at *;go_enter Tryz.func120,Tryz.ntmps120
 have HB:=qh (al3 w (.cells #[.int .i64 a0,.int .i64 a1,.int .i64 a2,.int .i64 a3,.int .i64 a4,.int .i64 a5,.int .i64 a6] 136) (.cells #[.int .i64 b0,.int .i64 b1,.int .i64 b2,.int .i64 b3,.int .i64 b4,.int .i64 b5,.int .i64 b6] 136) (.cells #[.int .i64 b0,.int .i64 b1,.int .i64 b2,.int .i64 b3,.int .i64 b4,.int .i64 b5,.int .i64 c6] 136));cases v1<;>cases v2
 all_goals
  go_wp2;go_ret
  exact ⟨rfl,HB.out⟩
theorem rightParts_any (op:Int) (h:Pt) (h3:h.cs<9223372036854775807) (h4:h.ls<9223372036854775807) (w:World):Calls Tryz.prog 88 #[.int .i64 op,.agg (ptC h).toArray] w fun e w'=>e=.returned (.bool (stOk op h))∧Below w.heap.size w w':=by
 obtain ⟨a0,a1,a2,a3,a4,a5,a6⟩:=h;simp only at h3 h4;have PE:=pt_run;have W2:=qh (show ∀ W,Calls Tryz.prog 120 #[.agg #[.int .i64 a0,.int .i64 a1,.int .i64 a2,.int .i64 a3,.int .i64 a4,.int .i64 a5,.int .i64 a6],.agg #[.int .i64 0,.int .i64 0,.int .i64 0,.int .i64 a3,.int .i64 0,.int .i64 0,.int .i64 a3]] W fun e w'=>e=.returned (.bool (elseB ⟨a0,a1,a2,a3,a4,a5,a6⟩ ⟨0,0,0,a3,0,0,a3⟩))∧Below W.heap.size W w' from fun W=>withElse_any _ ⟨0,0,0,a3,0,0,a3⟩ h3 W);have W3:=qh (show ∀ W,Calls Tryz.prog 120 #[.agg #[.int .i64 a0,.int .i64 a1,.int .i64 a2,.int .i64 a3,.int .i64 a4,.int .i64 a5,.int .i64 a6],.agg #[.int .i64 0,.int .i64 0,.int .i64 1,.int .i64 0,.int .i64 a4,.int .i64 0,.int .i64 a4]] W fun e w'=>e=.returned (.bool (elseB ⟨a0,a1,a2,a3,a4,a5,a6⟩ ⟨0,0,1,0,a4,0,a4⟩))∧Below W.heap.size W w' from fun W=>withElse_any _ ⟨0,0,1,0,a4,0,a4⟩ h4 W);have HB:=qh (al1 w (.cells #[.int .i64 a0,.int .i64 a1,.int .i64 a2,.int .i64 a3,.int .i64 a4,.int .i64 a5,.int .i64 a6] 136));have hz:(w.alloc (.cells #[.int .i64 a0,.int .i64 a1,.int .i64 a2,.int .i64 a3,.int .i64 a4,.int .i64 a5,.int .i64 a6] 136)).heap.size=w.heap.size+1:=by simp
 have HZ:=qh hz;clear hz h3 h4;simp only [ptC];by_cases e1:op=1
 ·subst e1
  rw [stOk,if_pos rfl];have E:((a0:Int)==0&&((a1:Int)==1&&((a2:Int)==1&&((a3:Int)==0&&((a4:Int)==0&&((a5:Int)==0&&((a6:Int)==0)))))))=decide ((⟨a0,a1,a2,a3,a4,a5,a6⟩:Pt)=⟨0,1,1,0,0,0,0⟩):=pt_dec ⟨a0,a1,a2,a3,a4,a5,a6⟩ ⟨0,1,1,0,0,0,0⟩;have HE:=qh E;generalize decide ((⟨a0,a1,a2,a3,a4,a5,a6⟩:Pt)=⟨0,1,1,0,0,0,0⟩)=v at *;clear E;go_enter Tryz.func88,Tryz.ntmps88
  go_wp2;go_ret
  exact ⟨ret_bool HE.out,HB.out⟩
 by_cases e2:op=2
 ·subst e2
  rw [stOk,if_neg (by decide),if_pos rfl];generalize elseB ⟨a0,a1,a2,a3,a4,a5,a6⟩ ⟨0,0,0,a3,0,0,a3⟩=v at *;by_cases h0:0<a3
  ·rw [decide_eq_true h0]
   have h0':(0:Int)<a3:=by omega
   clear PE W3 h0;go_enter Tryz.func88,Tryz.ntmps88
   go_wp2_with (go_at_call 120;fail)
   refine (W2.out _).mono ?_;rintro e w2 ⟨rfl,hb⟩;have B2:=btr HB hb;clear hb W2;go_wp2_with fail
   go_ret
   exact ⟨rfl,B2.out⟩
  ·rw [decide_eq_false h0]
   have h0':¬ (0:Int)<a3:=by omega
   clear PE W3 W2 h0;go_enter Tryz.func88,Tryz.ntmps88
   go_wp2;go_ret
   exact ⟨rfl,HB.out⟩
 by_cases e3:op=3
 ·subst e3
  rw [stOk,if_neg (by decide),if_neg (by decide),if_pos rfl];generalize elseB ⟨a0,a1,a2,a3,a4,a5,a6⟩ ⟨0,0,1,0,a4,0,a4⟩=v at *;clear PE W2;go_enter Tryz.func88,Tryz.ntmps88
  go_wp2_with (go_at_call 120;fail)
  refine (W3.out _).mono ?_;rintro e w2 ⟨rfl,hb⟩;have B2:=btr HB hb;clear hb W3;go_wp2_with fail
  go_ret
  exact ⟨rfl,B2.out⟩
 clear W2 W3;by_cases e4:op=4
 ·subst e4
  rw [stOk,if_neg (by decide),if_neg (by decide),if_neg (by decide),if_pos rfl];have E:((a0:Int)==1&&((a1:Int)==0&&((a2:Int)==0&&((a3:Int)==3&&((a4:Int)==0&&((a5:Int)==0&&((a6:Int)==1)))))))=decide ((⟨a0,a1,a2,a3,a4,a5,a6⟩:Pt)=⟨1,0,0,3,0,0,1⟩):=pt_dec ⟨a0,a1,a2,a3,a4,a5,a6⟩ ⟨1,0,0,3,0,0,1⟩;have HE:=qh E;generalize decide ((⟨a0,a1,a2,a3,a4,a5,a6⟩:Pt)=⟨1,0,0,3,0,0,1⟩)=v at *;clear E;go_enter Tryz.func88,Tryz.ntmps88
  go_wp2;go_ret
  exact ⟨ret_bool HE.out,HB.out⟩
 by_cases e5:op=5
 ·subst e5
  rw [stOk,if_neg (by decide),if_neg (by decide),if_neg (by decide),if_neg (by decide),if_pos (by decide)];have E:((a0:Int)==0&&((a1:Int)==0&&((a2:Int)==1&&((a3:Int)==0&&((a4:Int)==0&&((a5:Int)==0&&((a6:Int)==1)))))))=decide ((⟨a0,a1,a2,a3,a4,a5,a6⟩:Pt)=⟨0,0,1,0,0,0,1⟩):=pt_dec ⟨a0,a1,a2,a3,a4,a5,a6⟩ ⟨0,0,1,0,0,0,1⟩;have HE:=qh E;generalize decide ((⟨a0,a1,a2,a3,a4,a5,a6⟩:Pt)=⟨0,0,1,0,0,0,1⟩)=v at *;clear E;go_enter Tryz.func88,Tryz.ntmps88
  go_wp2;go_ret
  exact ⟨ret_bool HE.out,HB.out⟩
 by_cases e6:op=6
 ·subst e6
  rw [stOk,if_neg (by decide),if_neg (by decide),if_neg (by decide),if_neg (by decide),if_pos (by decide)];have E:((a0:Int)==0&&((a1:Int)==0&&((a2:Int)==1&&((a3:Int)==0&&((a4:Int)==0&&((a5:Int)==0&&((a6:Int)==1)))))))=decide ((⟨a0,a1,a2,a3,a4,a5,a6⟩:Pt)=⟨0,0,1,0,0,0,1⟩):=pt_dec ⟨a0,a1,a2,a3,a4,a5,a6⟩ ⟨0,0,1,0,0,0,1⟩;have HE:=qh E;generalize decide ((⟨a0,a1,a2,a3,a4,a5,a6⟩:Pt)=⟨0,0,1,0,0,0,1⟩)=v at *;clear E;go_enter Tryz.func88,Tryz.ntmps88
  go_wp2;go_ret
  exact ⟨ret_bool HE.out,HB.out⟩
 by_cases e7:op=7
 ·subst e7
  rw [stOk,if_neg (by decide),if_neg (by decide),if_neg (by decide),if_neg (by decide),if_neg (by decide),if_pos (by decide)];have E:((a0:Int)==0&&((a1:Int)==0&&((a2:Int)==0&&((a3:Int)==0&&((a4:Int)==0&&((a5:Int)==0&&((a6:Int)==0)))))))=decide ((⟨a0,a1,a2,a3,a4,a5,a6⟩:Pt)=⟨0,0,0,0,0,0,0⟩):=pt_dec ⟨a0,a1,a2,a3,a4,a5,a6⟩ ⟨0,0,0,0,0,0,0⟩;have HE:=qh E;generalize decide ((⟨a0,a1,a2,a3,a4,a5,a6⟩:Pt)=⟨0,0,0,0,0,0,0⟩)=v at *;clear E;go_enter Tryz.func88,Tryz.ntmps88
  go_wp2;go_ret
  exact ⟨ret_bool HE.out,HB.out⟩
 by_cases e8:op=8
 ·subst e8
  rw [stOk,if_neg (by decide),if_neg (by decide),if_neg (by decide),if_neg (by decide),if_neg (by decide),if_pos (by decide)];have E:((a0:Int)==0&&((a1:Int)==0&&((a2:Int)==0&&((a3:Int)==0&&((a4:Int)==0&&((a5:Int)==0&&((a6:Int)==0)))))))=decide ((⟨a0,a1,a2,a3,a4,a5,a6⟩:Pt)=⟨0,0,0,0,0,0,0⟩):=pt_dec ⟨a0,a1,a2,a3,a4,a5,a6⟩ ⟨0,0,0,0,0,0,0⟩;have HE:=qh E;generalize decide ((⟨a0,a1,a2,a3,a4,a5,a6⟩:Pt)=⟨0,0,0,0,0,0,0⟩)=v at *;clear E;go_enter Tryz.func88,Tryz.ntmps88
  go_wp2;go_ret
  exact ⟨ret_bool HE.out,HB.out⟩
 by_cases e9:op=9
 ·subst e9
  rw [stOk,if_neg (by decide),if_neg (by decide),if_neg (by decide),if_neg (by decide),if_neg (by decide),if_neg (by decide),if_pos rfl];have E:((a0:Int)==1&&((a1:Int)==0&&((a2:Int)==0&&((a3:Int)==(a3:Int)&&((a4:Int)==0&&((a5:Int)==(a3:Int)&&((a6:Int)==0)))))))=decide ((⟨a0,a1,a2,a3,a4,a5,a6⟩:Pt)=⟨1,0,0,a3,0,a3,0⟩):=pt_dec ⟨a0,a1,a2,a3,a4,a5,a6⟩ ⟨1,0,0,a3,0,a3,0⟩;rw [beq_self_eq_true,Bool.true_and] at E;have HE:=qh E;generalize decide ((⟨a0,a1,a2,a3,a4,a5,a6⟩:Pt)=⟨1,0,0,a3,0,a3,0⟩)=v at *;clear E;go_enter Tryz.func88,Tryz.ntmps88
  go_wp2;go_ret
  exact ⟨ret_bool HE.out,HB.out⟩
 rw [stOk,if_neg e1,if_neg e2,if_neg e3,if_neg e4,if_neg (by omega),if_neg (by omega),if_neg e9];have z1:=neb e1;have z2:=neb e2;have z3:=neb e3;have z4:=neb e4;have z5:=neb e5;have z6:=neb e6;have z7:=neb e7;have z8:=neb e8;have z9:=neb e9;clear PE e1 e2 e3 e4 e5 e6 e7 e8 e9;go_enter Tryz.func88,Tryz.ntmps88
 go_wp2;go_ret
 exact ⟨rfl,HB.out⟩
def Wr (B g:Nat) (l:Str) (w:World):Prop:=Lib.IsBuilder 55 5 B g (Lib.byteCells l) w
def Fr (B g:Nat) (w w':World):Prop:=Below B w w'∧Lib.OthersKept 5 (some g) w w'∧w.heap.size≤w'.heap.size
theorem Fr.refl (B g:Nat) (w:World):Fr B g w w:=⟨Below.refl _ _,Lib.OthersKept.refl _ _ _,Nat.le_refl _⟩
theorem Fr.trans {B g:Nat} {a b c:World} (h:Fr B g a b) (k:Fr B g b c):Fr B g a c:=⟨h.1.trans k.1,h.2.1.trans k.2.1,Nat.le_trans h.2.2 k.2.2⟩
theorem Fr.alloc {B g:Nat} {a w:World} (h:Fr B g a w) (hB:B≤w.heap.size) (o:Obj):Fr B g a (w.alloc o):=⟨h.1.alloc hB o,h.2.1.alloc o,Nat.le_trans h.2.2 (by simp)⟩
theorem Fr.of {B g:Nat} {w w':World} (h:Below w.heap.size w w') (hB:B≤w.heap.size):Fr B g w w':=⟨h.mono hB,fun i o hi _ _=>by
 have hlt:i<w.heap.size:=(Array.getElem?_eq_some_iff.1 hi).1;rw [h.block i hlt];exact hi,h.size⟩
def Hb (w:World) (b:Nat) (T:TypeId) (vs:List Value):Prop:=w.heap[b]?=some (.cells vs.toArray T (0,0))
theorem Hb.box {w:World} {b:Nat} {T:TypeId} {vs:List Value} (h:Hb w b T vs):Box w b 0 vs:=Box.at fun i v hv=>by
 rw [Nat.zero_add];refine ⟨(Lib.cell_of_heap h i).trans (by simpa using hv),?_⟩;simp only [World.frozen?];unfold Hb at h;rw [h];simp
theorem Hb.fr {B g:Nat} {w w':World} {b:Nat} {T:TypeId} {vs:List Value} (h:Hb w b T vs) (hf:Fr B g w w') (hb:b≠g) (hT:T≠5):Hb w' b T vs:=
 hf.2.1 b _ h (fun e=>hb (Option.some.inj e)) (fun c fz e=>by injection e with _ e _;exact hT e)
theorem Hb.lt {w:World} {b:Nat} {T:TypeId} {vs:List Value} (h:Hb w b T vs):b<w.heap.size:=(Array.getElem?_eq_some_iff.1 h).1
theorem Hb.new (w:World) (vs:List Value) (T:TypeId):Hb (w.alloc (.cells vs.toArray T)) w.heap.size T vs:=heap_alloc_new w _
theorem Hb.below {w w':World} {B b:Nat} {T:TypeId} {vs:List Value} (h:Hb w b T vs) (hb:Below B w w') (hB:b<B):Hb w' b T vs:=by
 unfold Hb;rw [hb.block b hB];exact h
theorem Wr.lt {B g:Nat} {l:Str} {w:World} (h:Wr B g l w):g<w.heap.size:=by
 rcases h with h|h<;>exact h.lt
theorem Wr.le {B g:Nat} {l:Str} {w:World} (h:Wr B g l w):B≤g:=by
 rcases h with h|h<;>exact h.1
theorem ownsRow_below {w w':World} {B size n:Nat} {e:TypeId} {v:Value} {xs:List Value} (h:w.ownsRow B e size v n xs) (hb:Below w.heap.size w w'):w'.ownsRow B e size v n xs:=by
 refine ⟨h.1,?_⟩;rcases h.2 with h|⟨g,cap,cur,hv,hbg,hg,r⟩
 ·exact .inl h
 ·exact .inr ⟨g,cap,cur,hv,hbg,(hb.block g (Array.getElem?_eq_some_iff.1 hg).1).trans hg,r⟩
theorem at_below {T e:TypeId} {B g:Nat} {p:Value} {bs:List Value} {w w':World} (h:Lib.BuilderAt T e B g p bs w) (hb:Below w.heap.size w w'):Lib.BuilderAt T e B g p bs w':=by
 have hl:=h.lt;obtain ⟨h1,v,h2,h3,h4⟩:=h;refine ⟨h1,v,?_,?_,h4⟩
 ·rw [hb.block g hl]
  exact h2
 ·exact ownsRow_below h3 hb
theorem Wr.below {B g:Nat} {l:Str} {w w':World} (h:Wr B g l w) (hb:Below w.heap.size w w'):Wr B g l w':=by
 rcases h with h|h
 ·exact .inl (at_below h hb)
 ·exact .inr (at_below h hb)
theorem Wr.new (w:World):Wr w.heap.size w.heap.size [] (w.alloc (.cells #[.pointer none,.slice none 0 0] 55)):=Lib.fresh_isBuilder _ _ w
theorem size_bld:(Tryz.prog.info? 53).map (·.size)=some 2:=by kernel_rfl
theorem size_u8:(Tryz.prog.info? 5).map (fun i=>(i.zero,i.size,i.bytes))=some (some (.int .u8 0),1,1):=by kernel_rfl
theorem check_used (b:Nat) (w:World) (h0:w.cell? ⟨b,0,none⟩=some (.pointer (some ⟨b,0,none⟩))) :
  Calls Tryz.prog 96 #[.pointer (some ⟨b,0,none⟩)] w fun e w'=>e=.returned (.tuple #[])∧w'=w:=by
 obtain ⟨j,hj,_⟩:=Option.map_eq_some_iff.1 size_bld;go_enter Tryz.func96,Tryz.ntmps96
 go_wp2;rw [Lib.run_neq_ptr_same w _ Tryz.underlying50 hj];go_wp2;go_end0
 exact ⟨rfl,rfl⟩
theorem check_fresh (b:Nat) (w:World) (h0:w.cell? ⟨b,0,none⟩=some (.pointer none)) (hsh:w.shape? b=some (55,2)) (hfz:w.frozen? ⟨b,0,none⟩=false) :
  Calls Tryz.prog 96 #[.pointer (some ⟨b,0,none⟩)] w fun e w'=>e=.returned (.tuple #[])∧w'=w.setCell ⟨b,0,none⟩ (.pointer (some ⟨b,0,none⟩)):=by
 obtain ⟨j,hj,hjs⟩:=Option.map_eq_some_iff.1 size_bld;go_enter Tryz.func96,Tryz.ntmps96
 go_wp2;rw [Lib.run_to_unsafe w ⟨b,0,none⟩ Tryz.underlying50 Tryz.underlying166 hj (by rw [hjs];decide) hsh (Nat.zero_lt_succ 1)];simp only [Result.andThen];rw [Oper.upon_value];go_wp2;rw [run_callFunc_extern Tryz.func124 (by kernel_rfl) (by kernel_rfl) (by kernel_rfl) (e:=Extern.AbiNoEscape.same) (by kernel_rfl)];rw [Lib.run_noEscape];simp only [Result.andThen];rw [Oper.upon_value];go_wp2;rw [Lib.run_from_unsafe w ⟨b,0,none⟩ Tryz.underlying166 Tryz.underlying50 hj hsh (by kernel_rfl)];simp only [Result.andThen];rw [Oper.upon_value];go_wp2;go_end0
 exact ⟨rfl,rfl⟩
theorem check_any (B b:Nat) (bs:List Value) (w:World) (h:Lib.IsBuilder 55 5 B b bs w) :
  Calls Tryz.prog 96 #[.pointer (some ⟨b,0,none⟩)] w fun e w'=>e=.returned (.tuple #[])∧Lib.BuilderAt 55 5 B b (.pointer (some ⟨b,0,none⟩)) bs w'∧Fr B b w w':=by
 rcases h with h|h
 ·refine (check_fresh b w h.cell0 h.shape h.frozen0).mono ?_
  rintro e w' ⟨rfl,rfl⟩;exact ⟨rfl,h.used _,(Below.refl B w).setCell (p:=⟨b,0,none⟩) h.1 _,(Lib.OthersKept.refl _ _ _).setCell ⟨b,0,none⟩ rfl _,by simp⟩
 ·refine (check_used b w h.cell0).mono ?_
  rintro e w' ⟨rfl,rfl⟩;exact ⟨rfl,h,Fr.refl _ _ _⟩
theorem own_kind {w:World} {B:Nat} {e:TypeId} {v:Value} {n:Nat} {xs:List Value} (h:w.ownsRow B e 1 v n xs):∀ g,v.ownBlock=some g→∃ c fz,w.heap[g]?=some (.cells c e fz):=by
 intro g hg;rcases h.2 with ⟨rfl,_⟩|⟨g',cap,cur,rfl,_,hgg,_⟩
 ·simp [Value.ownBlock] at hg
 ·simp [Value.ownBlock] at hg
  subst hg;exact ⟨cur,(0,0),hgg⟩
theorem ws_any (B b:Nat) (l:Str) (s:ByteArray) (w:World) (h:Wr B b l w) (hlen:l.length+s.size≤140737488355328) (hBw:B≤w.heap.size) :
  Calls Tryz.prog 58 #[.pointer (some ⟨b,0,none⟩),.string s] w fun e w'=>e=.returned (.tuple #[.int .i64 s.size,.nilIface])∧Wr B b (l++s.data.toList) w'∧Fr B b w w':=by
 obtain ⟨i0,hi,hz0,hz1,hz2⟩:=info_parts size_u8;go_enter Tryz.func58,Tryz.ntmps58
 go_wp2_with (go_at_call 96;fail)
 refine (check_any B b (Lib.byteCells l) _ h).mono ?_;rintro e w1 ⟨rfl,h1,hf1⟩;obtain ⟨hB,v,hbk,hown,hne⟩:=h1;have c0:w1.cell? ⟨b,0,none⟩=some (.pointer (some ⟨b,0,none⟩)):=by rw [Lib.cell_of_heap hbk];rfl
 have c1:w1.cell? ⟨b,1,none⟩=some v:=by rw [Lib.cell_of_heap hbk];rfl
 have hbl:(Lib.byteCells l).length=l.length:=Lib.byteCells_length l;have hs1:=hf1.2.2;go_wp2_with (at_builtin;refine Lib.wpList_append_own_string _ rfl _ _ 51 9 rfl B 5 i0 Tryz.underlying51 Tryz.underlying9 hi hz0 hz1 hz2 _ _ _ rfl hown s rfl ?c3 ?c4 ?c5 ?_)
 case c3=>unfold maxLen;omega
 case c4=>omega
 case c5=>omega
 intro v' w2 hown' hgrow _;have hlt:b<w1.heap.size:=by
  rcases Nat.lt_or_ge b w1.heap.size with h'|h'
  ·exact h'
  ·simp [Array.getElem?_eq_none h'] at hbk
 have hb2:w2.heap[b]?=some (.cells #[.pointer (some ⟨b,0,none⟩),v] 55 (0,0)):=by
  rw [hgrow.block b hlt (fun e=>hne e.symm)];exact hbk
 have d0:w2.cell? ⟨b,0,none⟩=some (.pointer (some ⟨b,0,none⟩)):=by rw [Lib.cell_of_heap hb2];rfl
 have d1:w2.cell? ⟨b,1,none⟩=some v:=by rw [Lib.cell_of_heap hb2];rfl
 have f1:w2.frozen? ⟨b,1,none⟩=false:=Lib.frozen_of_heap hb2 1;obtain ⟨ao,n',cap,rfl⟩:∃ ao n' cap,v'=.slice ao n' cap:=by
  rcases hown'.2 with ⟨hv,_⟩|⟨g,cap,cur,hv,_⟩
  ·exact ⟨_,_,_,hv⟩
  ·exact ⟨_,_,_,hv⟩
 have FB:=qh ((hf1.1.grown hgrow (by omega) (fun k hk=>(hown.lt k hk).1)).setCell (p:=⟨b,1,none⟩) hB (.slice ao n' cap));have FK:=qh ((hf1.2.1.grown hgrow (own_kind hown)).setCell ⟨b,1,none⟩ rfl (.slice ao n' cap));have FS:=qh (show w.heap.size≤(w2.setCell ⟨b,1,none⟩ (.slice ao n' cap)).heap.size by have:=FB.out.size;have:=hgrow.size;simp;omega);go_wp2;go_ret2
 refine ⟨rfl,.inr ?_,FB.out,FK.out,FS.out⟩;have:=Lib.BuilderAt.put (T:=55) (e:=5) hB hb2 (bs':=Lib.byteCells l++Lib.strCells s) (by rw [List.length_append,Lib.strCells_length,Lib.byteCells_length];exact hown') (by decide);rw [show Lib.byteCells (l++s.data.toList)=Lib.byteCells l++Lib.strCells s by rw [Lib.strCells_eq];simp [Lib.byteCells]];exact this
theorem len_any (B b:Nat) (l:Str) (w:World) (h:Wr B b l w) :
  Calls Tryz.prog 16 #[.pointer (some ⟨b,0,none⟩)] w fun e w'=>e=.returned (.int .i64 l.length)∧w'=w:=by
 obtain ⟨p,hB,v,hbk,hown,hne⟩:∃ p,Lib.BuilderAt 55 5 B b p (Lib.byteCells l) w:=by
  rcases h with h|h
  ·exact ⟨_,h⟩
  ·exact ⟨_,h⟩
 rw [Lib.byteCells_length] at hown;obtain ⟨ao,cap,rfl⟩:∃ ao cap,v=.slice ao l.length cap:=by
  rcases hown.2 with ⟨hv,h0⟩|⟨g,cap,cur,hv,_⟩
  ·exact ⟨none,0,by rw [hv,h0]⟩
  ·exact ⟨_,_,hv⟩
 have c1:w.cell? ⟨b,1,none⟩=some (.slice ao l.length cap):=by rw [Lib.cell_of_heap hbk];rfl
 clear hB hbk hown hne;go_enter Tryz.func16,Tryz.ntmps16
 go_wp2;go_ret
 exact ⟨rfl,rfl⟩
theorem str_any (B b:Nat) (l:Str) (w:World) (h:Wr B b l w) (h0:l≠[]) :
  Calls Tryz.prog 17 #[.pointer (some ⟨b,0,none⟩)] w fun e w'=>e=.returned (.string ⟨l.toArray⟩)∧Below B w w':=by
 obtain ⟨p,hB,v,hbk,hown,hne⟩:∃ p,Lib.BuilderAt 55 5 B b p (Lib.byteCells l) w:=by
  rcases h with h|h
  ·exact ⟨_,h⟩
  ·exact ⟨_,h⟩
 have hl0:l.length≠0:=by simpa using h0
 rw [Lib.byteCells_length] at hown;obtain ⟨g,cap,cur,rfl,hbg,hg,hnc,hcm,hcs,htake⟩:∃ g cap cur,v=.slice (some ⟨g,0,none⟩) l.length cap∧B≤g∧w.heap[g]?=some (.cells cur 5 (0,0))∧l.length≤cap∧cap≤maxLen∧cur.size=cap*1∧cur.toList.take (l.length*1)=Lib.byteCells l:=by
  rcases hown.2 with ⟨_,hz⟩|⟨g,cap,cur,hv,r⟩
  ·exact absurd hz hl0
  ·exact ⟨g,cap,cur,hv,r⟩
 have c1:w.drew.cell? ⟨b,1,none⟩=some (.slice (some ⟨g,0,none⟩) l.length cap):=by
  have:w.drew.heap[b]?=some (.cells #[p,.slice (some ⟨g,0,none⟩) l.length cap] 55 (0,0)):=hbk;rw [Lib.cell_of_heap this];rfl
 have hSD:(Builtin.unsafeSliceData_ #[51] 86 #[.slice (some ⟨g,0,none⟩) l.length cap]).run Tryz.prog w.drew=.ok (.pointer (some ⟨g,0,none⟩)) w.drew:=
  Lib.run_unsafeSliceData_row _ _ _ _ _ _ (by omega)
 have hUS:(Builtin.unsafeString_ #[86,3] 9 #[.pointer (some ⟨g,0,none⟩),.int .i64 l.length]).run Tryz.prog w.drew=.ok (.string ⟨l.toArray⟩) (w.drew.freeze ⟨g,0,none⟩ l.length):=by
  refine Lib.run_unsafeString_row w.drew 86 3 9 5 Tryz.underlying86 (by kernel_rfl) g cur.size (by have hg':w.drew.heap[g]?=some (.cells cur 5 (0,0)):=hg;simp [World.shape?,hg']) l h0 (by omega) (by unfold maxLen at hcm;omega) ?_;intro j x hx;have:=hown.cells (g:=g) rfl j (.int .u8 x.toNat) (by simp [Lib.byteCells,hx]);exact this
 have FB:=qh (Lib.below_freeze (Below.drew (Below.refl B w)) (p:=⟨g,0,none⟩) hbg l.length);clear hB hbk hown hne hl0 h0 hbg hg hnc hcm hcs htake;go_enter Tryz.func17,Tryz.ntmps17
 go_wp2;go_region
 all_goals (go_wp2;go_ret;exact ⟨rfl,FB.out⟩)
end sh
section
open ChangeShapes WideShapes ChangeAt RowKit
def Laid (W : World) : Prop := Lib.TabIs Tryz.prog W "internal/strconv.uint64pow10" .u64 Lib.pow10Tab
theorem gPow : Tryz.prog.globalNamed "internal/strconv.uint64pow10" = some 0 := by kernel_rfl
theorem tPow:(Tryz.prog.globals[0]?).map (·.type)=some 193:=by kernel_rfl
theorem dPow:(Rows.laid_internal_strconv_uint64pow10:DataW Unit)=Lib.tabData .u64 Lib.pow10Tab:=by kernel_rfl
theorem Laid.below {w w':World} (h:Laid w) (hb:Below w.heap.size w w'):Laid w':=by
 unfold Laid Lib.TabIs World.var? at *;rw [gPow] at h ⊢;simp only [Option.bind_some] at h ⊢;have hlt:0<w.heap.size:=by
  rcases Nat.lt_or_ge 0 w.heap.size with h'|h'
  ·exact h'
  ·rw [Array.getElem?_eq_none h'] at h;simp at h
 rw [hb.block _ hlt];exact h
end
namespace sh
open Shelf RowKit Lib
def renD:Go.Shelf.Ren:=⟨fun|129=>165|173=>97|246=>125|283=>148|284=>149|285=>150|286=>151|317=>164|318=>166|319=>167|320=>168|337=>180|338=>181|n=>n,fun|0=>0|2=>2|3=>3|4=>4|5=>5|9=>9|20=>20|37=>51|46=>197|51=>194|53=>88|171=>180|173=>183|212=>193|213=>195|232=>211|233=>212|n=>n,fun|17=>0|18=>2|19=>3|n=>n⟩
theorem laysD0:Go.Proofs.Lays.n173 Tryz.prog renD:={
 mixed:=by kernel_rfl
 f129:=Tryz.func165.trans (congrArg some (by kernel_rfl))
 f173:=Tryz.func97.trans (congrArg some (by kernel_rfl))
 f246:=Tryz.func125.trans (congrArg some (by kernel_rfl))
 f283:=Tryz.func148.trans (congrArg some (by kernel_rfl))
 f284:=Tryz.func149.trans (congrArg some (by kernel_rfl))
 f285:=Tryz.func150.trans (congrArg some (by kernel_rfl))
 f286:=Tryz.func151.trans (congrArg some (by kernel_rfl))
 f317:=Tryz.func164.trans (congrArg some (by kernel_rfl))
 f318:=Tryz.func166.trans (congrArg some (by kernel_rfl))
 f319:=Tryz.func167.trans (congrArg some (by kernel_rfl))
 f320:=Tryz.func168.trans (congrArg some (by kernel_rfl))
 f337:=Tryz.func180.trans (congrArg some (by kernel_rfl))
 f338:=Tryz.func181.trans (congrArg some (by kernel_rfl))
 t0:=Tryz.underlying0
 a0:=Tryz.isAgg0
 z0:=Tryz.sizeOf0
 v0:=Tryz.zeroValue0
 t2:=Tryz.underlying2
 a2:=Tryz.isAgg2
 z2:=Tryz.sizeOf2
 v2:=Tryz.zeroValue2
 t3:=Tryz.underlying3
 a3:=Tryz.isAgg3
 z3:=Tryz.sizeOf3
 v3:=Tryz.zeroValue3
 t4:=Tryz.underlying4
 a4:=Tryz.isAgg4
 z4:=Tryz.sizeOf4
 v4:=Tryz.zeroValue4
 t5:=Tryz.underlying5
 a5:=Tryz.isAgg5
 z5:=Tryz.sizeOf5
 v5:=Tryz.zeroValue5
 t9:=Tryz.underlying9
 a9:=Tryz.isAgg9
 z9:=Tryz.sizeOf9
 v9:=Tryz.zeroValue9
 t20:=Tryz.underlying20
 a20:=Tryz.isAgg20
 z20:=Tryz.sizeOf20
 v20:=Tryz.zeroValue20
 t37:=Tryz.underlying51
 a37:=Tryz.isAgg51
 z37:=Tryz.sizeOf51
 v37:=Tryz.zeroValue51
 t46:=Tryz.underlying197
 a46:=Tryz.isAgg197
 z46:=Tryz.sizeOf197
 v46:=Tryz.zeroValue197
 t51:=Tryz.underlying194
 a51:=Tryz.isAgg194
 z51:=Tryz.sizeOf194
 v51:=Tryz.zeroValue194
 t53:=Tryz.underlying88
 a53:=Tryz.isAgg88
 z53:=Tryz.sizeOf88
 v53:=Tryz.zeroValue88
 t171:=Tryz.underlying180
 a171:=Tryz.isAgg180
 z171:=Tryz.sizeOf180
 v171:=Tryz.zeroValue180
 t173:=Tryz.underlying183
 a173:=Tryz.isAgg183
 z173:=Tryz.sizeOf183
 v173:=Tryz.zeroValue183
 t212:=Tryz.underlying193
 a212:=Tryz.isAgg193
 z212:=Tryz.sizeOf193
 v212:=Tryz.zeroValue193
 t213:=Tryz.underlying195
 a213:=Tryz.isAgg195
 z213:=Tryz.sizeOf195
 t232:=Tryz.underlying211
 a232:=Tryz.isAgg211
 z232:=Tryz.sizeOf211
 v232:=Tryz.zeroValue211
 t233:=Tryz.underlying212
 a233:=Tryz.isAgg212
 z233:=Tryz.sizeOf212
 v233:=Tryz.zeroValue212
 g17:=by kernel_rfl
 g18:=by kernel_rfl
 g19:=by kernel_rfl}
theorem laysD:Go.Proofs.LaysM.n173 Tryz.prog renD:={laysD0 with
 i0:=by kernel_rfl
 i2:=by kernel_rfl
 i3:=by kernel_rfl
 i4:=by kernel_rfl
 i5:=by kernel_rfl
 i9:=by kernel_rfl
 i20:=by kernel_rfl
 i37:=by kernel_rfl
 i46:=by kernel_rfl
 i51:=by kernel_rfl
 i53:=by kernel_rfl
 i171:=by kernel_rfl
 i173:=by kernel_rfl
 i212:=by kernel_rfl
 i232:=by kernel_rfl
 i233:=by kernel_rfl
 m17:=by kernel_rfl
 m18:=by kernel_rfl
 m19:=by kernel_rfl}
end sh
namespace sh
open ChangeShapes WideShapes ChangeAt RowKit k rr tk tr
theorem below_grow {w:World} {os:Array Obj} (k:Nat):Below w.heap.size w (Go.Sort.grow (w.drewN k) os):=by
 refine (below_drawn (Below.refl _ _) k).trans ⟨rfl,rfl,rfl,?_,fun i hi=>?_⟩
 ·simp [Go.Sort.grow]
 ·simp only [Go.Sort.grow]
  rw [Array.getElem?_append_left];simpa using hi
def InI (n:Int):Prop:=-9223372036854775808≤n∧n≤9223372036854775807
theorem format_any (n:Int) (hn:InI n) (w:World) (hL:Laid w):Calls Tryz.prog 97 #[.int .i64 n,.int .i64 10] w fun e w'=>e=.returned (sv (numS n))∧Below w.heap.size w w':=by
 refine (Go.Proofs.Any.strconv_FormatInt_10 laysD n hn.1 hn.2 w hL).mono ?_;rintro e w' ⟨rfl,k,os,rfl⟩;exact ⟨rfl,below_grow k⟩
theorem decimal_any (n:Int) (hn:InI n) (w:World) (hL:Laid w):Calls Tryz.prog 60 #[.int .i64 n] w fun e w'=>e=.returned (sv (numS n))∧Below w.heap.size w w':=by
 have FA:=Lib.hid (format_any n hn w hL);clear hn hL;go_enter Tryz.func60,Tryz.ntmps60
 go_wp2_with (go_at_call 97;fail)
 refine FA.out.mono ?_;rintro e w1 ⟨rfl,hb⟩;have B1:=Lib.hid hb;clear hb FA;unfold sv;go_wp2_with fail
 go_ret
 exact ⟨rfl,B1.out⟩
theorem truth_any (n:Int) (w:World):Calls Tryz.prog 61 #[.int .i64 n] w fun e w'=>e=.returned (sv (truthS n))∧w'=w:=by
 by_cases e0:n=0
 ·subst e0
  go_enter Tryz.func61,Tryz.ntmps61
  go_wp2;go_ret
  exact ⟨rfl,rfl⟩
 rw [truthS,if_neg e0];have z0:=neb e0;clear e0;go_enter Tryz.func61,Tryz.ntmps61
 go_wp2;go_ret
 exact ⟨rfl,rfl⟩
abbrev lim:Nat:=140737488355328
def Wrote (B g:Nat) (l t:Str) (w:World) (e:Ending) (w':World):Prop:=e=.returned (.tuple #[])∧Wr B g (l++t) w'∧Fr B g w w'
theorem flat_take {L:List Str} {q:Nat} {x:Str} (h:L[q]?=some x):(L.take (q+1)).flatten=(L.take q).flatten++x:=by
 rw [List.take_add_one,h,List.flatten_append];simp
theorem flat_le {L:List Str} {q:Nat} {x:Str} (h:L[q]?=some x):(L.take q).flatten.length+x.length≤L.flatten.length:=by
 have h1:(L.take (q+1)).flatten.length≤L.flatten.length:=by
  conv=>rhs;rw [←List.take_append_drop (q+1) L,List.flatten_append,List.length_append]
  omega
 rw [flat_take h,List.length_append] at h1;exact h1
theorem put_any {B g k:Nat} {l:Str} {L:List Str} {w:World} (hW:Wr B g l w) (hB:B≤w.heap.size) (hR:Hb w k 9 (L.map sv)) (hk:k≠g) (hm:L.length≤9) (hlen:l.length+L.flatten.length≤lim) :
  Calls Tryz.prog 35 #[.pointer (some ⟨g,0,none⟩),.slice (some ⟨k,0,none⟩) L.length L.length] w (Wrote B g l L.flatten w):=by
 obtain ⟨n,hn⟩:∃ n,L.length=n:=⟨_,rfl⟩;rw [hn];have HW:=qh hW;have HB:=qh hB;have HR:=qh hR;have HK:=qh hk;have HL:=qh hlen;have HN:=qh (And.intro hn hm);clear hW hB hR hk hlen hn hm;go_enter Tryz.func35,Tryz.ntmps35
 go_upto_region 1 with (fail)
 go_loopw [8] (fun s8 wr=>∃ q:Nat,q≤n∧s8=.int .i64 q∧Wr B g (l++(L.take q).flatten) wr∧Fr B g w wr) (fun i _=>n-(intOf i).toNat)
 case atStart=>exact ⟨0,Nat.zero_le _,rfl,by rw [List.take_zero];simpa using HW.out,Fr.refl _ _ _⟩
 case round=>
  obtain ⟨q,hq,rfl,hwr,hfr⟩:=hrel;have hn9:n≤9:=by have:=HN.out;omega
  by_cases hlt:q<n
  ·obtain ⟨x,hx⟩:∃ x,L[q]?=some x:=⟨_,List.getElem?_eq_getElem (by rw [HN.out.1];exact hlt)⟩
   have a0:=(cell_of (HR.out.fr hfr HK.out (by decide)).box (i:=q) (v:=sv x) (by rw [List.getElem?_map,hx];rfl)).1;have w1:=nat_step q (by omega);have WS:=qh (ws_any B g (l++(L.take q).flatten) ⟨x.toArray⟩ wr hwr (by
    have h1:=flat_le hx;have h2:=HL.out;rw [List.length_append]
    show _+x.length≤_
    unfold lim at h2;omega) (Nat.le_trans HB.out hfr.2.2))
   rw [sv_list,List.append_assoc,←flat_take hx] at WS;have HF:=qh hfr;unfold sv at a0;clear hwr hfr hx;generalize (⟨x.toArray⟩:ByteArray)=xs at *;go_wp2_with (go_at_call 58;fail)
   refine WS.out.mono ?_;rintro e w5 ⟨rfl,hwr,hfr⟩;have W5:=qh hwr;have F5:=qh (HF.out.trans hfr);clear hwr hfr a0 WS HF;go_wp2_with fail
   go_roundw
   case rel=>exact ⟨q+1,by omega,by go_num,W5.out,F5.out⟩
   case measure=>simp [intOf];omega
  ·obtain rfl:q=n:=by omega
   have hz:¬ (q:Int)<q:=by omega
   have W5:=qh hwr;have F5:=qh hfr;clear hwr hfr;go_wp2_with fail
   go_end0
   refine ⟨rfl,?_,F5.out⟩;have:=W5.out;rw [←HN.out.1,List.take_length] at this;exact this
end sh
namespace sh
open ChangeShapes WideShapes ChangeAt RowKit k rr tk tr
mutual
def wE:Ex→Nat
 | .mk _ _ _ _ sub _=>wsE sub+1
def wsE:List Ex→Nat
 | []=>0
 | x::l=>wE x+wsE l
end
def wL:List (List Int)→Nat
 | []=>0
 | x::l=>x.length+1+wL l
mutual
def wS:St→Nat
 | .mk _ _ dst val conds labels fields blocks _=>1+(wE dst+wE val)+wsE conds+wL labels+fields.length+wsB blocks
def wsS:List St→Nat
 | []=>0
 | x::l=>wS x+wsS l
def wsB:List (List St)→Nat
 | []=>0
 | x::l=>wsS x+1+wsB l
end
theorem wE_pos:∀ x,1≤wE x
 | .mk _ _ _ _ _ _=>by rw [wE];omega
theorem wsE_len:∀ L:List Ex,L.length≤wsE L
 | []=>Nat.le_refl _
 | x::l=>by
  have:=wsE_len l;have:=wE_pos x;rw [wsE,List.length_cons];omega
theorem wL_len:∀ L:List (List Int),L.length≤wL L
 | []=>Nat.le_refl _
 | x::l=>by
  have:=wL_len l;rw [wL,List.length_cons];omega
theorem wsS_mem {x:St}:∀ {L:List St},x∈L→wS x≤wsS L
 | _,.head l=>by rw [wsS];omega
 | _,.tail y h=>by have:=wsS_mem h;rw [wsS];omega
theorem wsB_mem {x:List St}:∀ {L:List (List St)},x∈L→wsS x≤wsB L
 | _,.head l=>by rw [wsB];omega
 | _,.tail y h=>by have:=wsB_mem h;rw [wsB];omega
end sh
end Go.Proofs.YtdefgghhkknnpaaGreatDoor

/- What the landed tok's first and gap give, in the document's words. Conditions: a text has at most 60000 bytes; gap: the library's variable MaxLen holds some number. -/
import Derived.Test.YtdefgghhkknnpaaGreatDoorE03
set_option linter.unusedVariables false
set_option linter.unusedSimpArgs false
set_option maxRecDepth 100000
set_option maxHeartbeats 40000000
namespace Go.Proofs.YtdefgghhkknnpaaGreatDoor
namespace tk
open ChangeShapes WideShapes ChangeAt RowKit k rr
def fst0 (l:List UInt8):Tk×Int:=if l=[] then (zeroT,0) else fst1 l
theorem empty_str {r:ByteArray} (h:r.size=0):r.data.toList=[]:=List.eq_nil_of_length_eq_zero (by rw [size_len];exact h)
theorem is_empty {r:ByteArray} (h:r.size=0):(r.toList==[])=true:=by rw [str_beq,empty_str h];rfl
theorem not_empty {r:ByteArray} (h:0<r.size):(r.toList==[])=false:=by
 rw [str_beq,←dr_zero,dr_at h];rfl
theorem first_any (r:ByteArray) (hs:r.size≤60000) (w:World):Calls Tryz.prog 71 #[.string r] w fun e w'=>e=.returned (.tuple #[.agg (tC (fst0 r.data.toList).1).toArray,.int .i64 (fst0 r.data.toList).2])∧Below w.heap.size w w':=by
 have x4:=Box.new w #[.int .i64 0,.string ⟨#[]⟩,.int .i64 0,.int .i64 0,.int .i64 0] 34;have hb4:=(Below.refl w.heap.size w).alloc (Nat.le_refl _) (.cells #[.int .i64 0,.string ⟨#[]⟩,.int .i64 0,.int .i64 0,.int .i64 0] 34);have hz4:(w.alloc (.cells #[.int .i64 0,.string ⟨#[]⟩,.int .i64 0,.int .i64 0,.int .i64 0] 34)).heap.size=w.heap.size+1:=by simp
 have X4:=qh x4;have B4:=qh hb4;have Z4:=qh hz4;clear x4 hb4 hz4;by_cases h0:r.size=0
 ·have e0:=is_empty h0
  have HR:Hid (fst0 r.data.toList=(zeroT,0)):=qh (by unfold fst0;rw [if_pos (empty_str h0)]);clear h0 hs;go_enter Tryz.func71,Tryz.ntmps71
  go_upto_region 1 with (fail)
  generalize w.alloc (.cells #[.int .i64 0,.string ⟨#[]⟩,.int .i64 0,.int .i64 0,.int .i64 0] 34)=w4 at *;have ⟨c0,f0,c1,f1,c2,f2,c3,f3,c4,f4,_⟩:=X4.out;go_wp2_with fail
  obtain ⟨y,_,hB2⟩:=Box.puts (us:=[.int .i64 0,.string ⟨#[]⟩,.int .i64 0,.int .i64 0,.int .i64 0]) X4.out rfl;refine bodyPost_ret (k.results_cell_tmp rfl rfl (run_loadVar_mid _ w.heap.size 0 34 _ _ y.range rfl rfl (by kernel_rfl))) rfl ?_;exact ⟨by rw [HR.out];rfl,B4.out.trans (hB2 _ (Nat.le_refl _))⟩
 ·have h1:0<r.size:=by omega
  have e0:=not_empty h1;obtain ⟨x,hx⟩:∃ x:UInt8,r[0]=x:=⟨_,rfl⟩;have hd:=dr_at h1;rw [hx,dr_zero] at hd;have hf:fst0 r.data.toList=fst1 r.data.toList:=by unfold fst0;rw [if_neg (by rw [hd];simp)]
  rw [hf];have hz:(0:Int)<r.size:=by omega
  obtain ⟨al,hal⟩:∃ t,alphaB x=t:=⟨_,rfl⟩;obtain ⟨nu,hnu⟩:∃ t,numB x=t:=⟨_,rfl⟩;have AL:Hid (∀ W,Calls Tryz.prog 107 #[.int .u8 x.toNat] W fun e w'=>e=.returned (.bool al)∧W=w'):=qh fun W=>hal ▸ isLetter_any x W
  have NU:Hid (∀ W,Calls Tryz.prog 109 #[.int .u8 x.toNat] W fun e w'=>e=.returned (.bool nu)∧W=w'):=qh fun W=>hnu ▸ isDigit_any x W
  cases al
  ·cases nu
   ·have SL:=signLength_any r hs h1
    obtain ⟨sl,hsl⟩:∃ t,signLen r.data.toList=t:=⟨_,rfl⟩;rw [hsl] at SL;have SL:=qh SL;have hle:=signLen_le r.data.toList;rw [hsl,size_len] at hle;by_cases hs0:sl=0
    ·have hsg:sgn r.data.toList=(5,0,0,0):=by
      rw [hd] at hsl ⊢;exact sgn_none hal hnu (hsl.trans hs0)
     have HR:Hid (fst1 r.data.toList=(zeroT,5)):=qh (fst1_no hsg (by simp));subst hs0;clear hd hf hal hnu hsl hle hsg h0;go_enter Tryz.func71,Tryz.ntmps71
     go_upto_region 1 with (fail)
     generalize w.alloc (.cells #[.int .i64 0,.string ⟨#[]⟩,.int .i64 0,.int .i64 0,.int .i64 0] 34)=w4 at *;have ⟨c0,f0,c1,f1,c2,f2,c3,f3,c4,f4,_⟩:=X4.out;go_wp2_with (first|(go_at_call 107;(with_reducible refine (AL.out _).mono ?_);rintro e w1 ⟨rfl,rfl⟩)|(go_at_call 109;(with_reducible refine (NU.out _).mono ?_);rintro e w1 ⟨rfl,rfl⟩)|(go_at_call 111;(with_reducible refine (SL.out _).mono ?_);rintro e w1 ⟨rfl,rfl⟩))
     obtain ⟨y,_,hB2⟩:=Box.puts (us:=[.int .i64 0,.string ⟨#[]⟩,.int .i64 0,.int .i64 0,.int .i64 0]) X4.out rfl;refine bodyPost_ret (k.results_cell_tmp rfl rfl (run_loadVar_mid _ w.heap.size 0 34 _ _ y.range rfl rfl (by kernel_rfl))) rfl ?_;exact ⟨by rw [HR.out];rfl,B4.out.trans (hB2 _ (Nat.le_refl _))⟩
    ·obtain ⟨T,hT⟩:∃ T:ByteArray,r.extract 0 sl=T:=⟨_,rfl⟩
     have hTl:T.data.toList=r.data.toList.take sl:=by
      rw [←hT,extract_dr]
      show (dr r 0).take (sl-0)=_
      rw [dr_zero,Nat.sub_zero]
     have hTs:T.size≤60000:=by rw [←size_len,hTl,List.length_take,size_len];omega
     have hTz:(⟨(r.data.toList.take sl).toArray⟩:ByteArray)=T:=by rw [←hTl]
     have hsg:sgn r.data.toList=(0,4,0,sl):=by
      rw [hd] at hsl ⊢;rw [sgn_sign hal hnu (by rw [hsl];exact hs0),hsl]
     have HR:Hid (tC (fst1 r.data.toList).1=[.int .i64 4,.string T,.int .i64 0,.int .i64 0,.int .i64 0]∧(fst1 r.data.toList).2=0):=qh (by
      rw [fst1_yes hsg];exact ⟨by simp only [tC,hTz];rfl,rfl⟩)
     have T4:=qh fun W=>told_any 4 T hTs W
     have z1:(sl:Int)≤r.size:=by omega
     have z2:((sl:Int)==0)=false:=by rw [beq_eq_false_iff_ne];omega
     clear hd hf hal hnu hsl hle hsg h0 hTl hTs hTz hs0;go_enter Tryz.func71,Tryz.ntmps71
     go_upto_region 1 with (fail)
     generalize w.alloc (.cells #[.int .i64 0,.string ⟨#[]⟩,.int .i64 0,.int .i64 0,.int .i64 0] 34)=w4 at *;go_wp2_with (first|(go_at_call 107;(with_reducible refine (AL.out _).mono ?_);rintro e w1 ⟨rfl,rfl⟩)|(go_at_call 109;(with_reducible refine (NU.out _).mono ?_);rintro e w1 ⟨rfl,rfl⟩)|(go_at_call 111;(with_reducible refine (SL.out _).mono ?_);rintro e w1 ⟨rfl,rfl⟩)|(go_at_call 112;(with_reducible refine (T4.out _).mono ?_);rintro e w3 ⟨rfl,hb⟩;have XA:=qh (X4.out.below hb (Nat.lt_of_lt_of_eq (Nat.lt_succ_self _) Z4.out.symm));have BA:=btr B4 hb;clear hb;have ⟨c0,f0,c1,f1,c2,f2,c3,f3,c4,f4,_⟩:=XA.out))
     obtain ⟨y,_,hB2⟩:=Box.puts (us:=[.int .i64 4,.string T,.int .i64 0,.int .i64 0,.int .i64 0]) XA.out rfl;refine bodyPost_ret (k.results_cell_tmp rfl rfl (run_loadVar_mid _ w.heap.size 0 34 _ _ y.range rfl rfl (by kernel_rfl))) rfl ?_;exact ⟨by rw [HR.out.1,HR.out.2];rfl,BA.out.trans (hB2 _ (Nat.le_refl _))⟩
   ·have NM:=tnumber_any r hs hd hal hnu
    obtain ⟨⟨T,E⟩,hTE⟩:∃ q,fst1 r.data.toList=q:=⟨_,rfl⟩;rw [hTE] at NM;rw [hTE];have NM:Hid (∀ W,Calls Tryz.prog 110 #[.string r] W fun e w'=>e=.returned (.tuple #[.agg #[.int .i64 T.kind,.string ⟨T.text.toArray⟩,.int .i64 T.n,.int .i64 T.line,.int .i64 T.col],.int .i64 E])∧Below W.heap.size W w'):=qh NM;clear hd hf hal hnu h0 hTE;go_enter Tryz.func71,Tryz.ntmps71
    go_upto_region 1 with (fail)
    generalize w.alloc (.cells #[.int .i64 0,.string ⟨#[]⟩,.int .i64 0,.int .i64 0,.int .i64 0] 34)=w4 at *;go_wp2_with (first|(go_at_call 107;(with_reducible refine (AL.out _).mono ?_);rintro e w1 ⟨rfl,rfl⟩)|(go_at_call 109;(with_reducible refine (NU.out _).mono ?_);rintro e w1 ⟨rfl,rfl⟩)|(go_at_call 110;(with_reducible refine (NM.out _).mono ?_);rintro e w3 ⟨rfl,hb⟩;have XA:=qh (X4.out.below hb (Nat.lt_of_lt_of_eq (Nat.lt_succ_self _) Z4.out.symm));have BA:=btr B4 hb;clear hb;have ⟨c0,f0,c1,f1,c2,f2,c3,f3,c4,f4,_⟩:=XA.out))
    obtain ⟨y,_,hB2⟩:=Box.puts (us:=[.int .i64 T.kind,.string ⟨T.text.toArray⟩,.int .i64 T.n,.int .i64 T.line,.int .i64 T.col]) XA.out rfl;refine bodyPost_ret (k.results_cell_tmp rfl rfl (run_loadVar_mid _ w.heap.size 0 34 _ _ y.range rfl rfl (by kernel_rfl))) rfl ?_;exact ⟨rfl,BA.out.trans (hB2 _ (Nat.le_refl _))⟩
  ·have NM:=name_any r hs hd hal
   obtain ⟨⟨T,E⟩,hTE⟩:∃ q,fst1 r.data.toList=q:=⟨_,rfl⟩;rw [hTE] at NM;rw [hTE];have NM:Hid (∀ W,Calls Tryz.prog 108 #[.string r] W fun e w'=>e=.returned (.tuple #[.agg #[.int .i64 T.kind,.string ⟨T.text.toArray⟩,.int .i64 T.n,.int .i64 T.line,.int .i64 T.col],.int .i64 E])∧Below W.heap.size W w'):=qh NM;clear hd hf hal hnu h0 hTE;go_enter Tryz.func71,Tryz.ntmps71
   go_upto_region 1 with (fail)
   generalize w.alloc (.cells #[.int .i64 0,.string ⟨#[]⟩,.int .i64 0,.int .i64 0,.int .i64 0] 34)=w4 at *;go_wp2_with (first|(go_at_call 107;(with_reducible refine (AL.out _).mono ?_);rintro e w1 ⟨rfl,rfl⟩)|(go_at_call 108;(with_reducible refine (NM.out _).mono ?_);rintro e w3 ⟨rfl,hb⟩;have XA:=qh (X4.out.below hb (Nat.lt_of_lt_of_eq (Nat.lt_succ_self _) Z4.out.symm));have BA:=btr B4 hb;clear hb;have ⟨c0,f0,c1,f1,c2,f2,c3,f3,c4,f4,_⟩:=XA.out))
   obtain ⟨y,_,hB2⟩:=Box.puts (us:=[.int .i64 T.kind,.string ⟨T.text.toArray⟩,.int .i64 T.n,.int .i64 T.line,.int .i64 T.col]) XA.out rfl;refine bodyPost_ret (k.results_cell_tmp rfl rfl (run_loadVar_mid _ w.heap.size 0 34 _ _ y.range rfl rfl (by kernel_rfl))) rfl ?_;exact ⟨rfl,BA.out.trans (hB2 _ (Nat.le_refl _))⟩
def gapS:List UInt8→Nat×Bool
 | []=>(0,true)
 | c::l=>
  if c=32∨c=10∨c=9 then (1,true)
  else if two (c::l) 47 47=true then ((c::l).length-(lineRest (c::l)).length,true)
  else if two (c::l) 40 42=true then
   match endRest (l.drop 1) with
   | some r=>((c::l).length-r.length,true)
   | none=>(0,false)
  else (0,true)
theorem lineRest_47 (l:List UInt8):lineRest (47::l)=lineRest l:=by rw [lineRest,if_neg (by decide)]
theorem gap_no {l:List UInt8} {n:Nat} (h:gapS l=(n,false)):past l=(false,l):=by
 match l,h with
 | c::l,h=>
  rw [gapS] at h;split at h
  ·cases h
  ·rename_i h1
   split at h
   ·cases h
   ·rename_i h2
    split at h
    ·rename_i h3
     split at h
     ·cases h
     ·rename_i h4
      unfold past;rw [pastF,if_neg h1,if_neg h2,if_pos h3,h4]
    ·cases h
theorem gap_none {l:List UInt8} (h:gapS l=(0,true)):past l=(true,l):=by
 match l,h with
 | [],h=>rfl
 | c::l,h=>
  rw [gapS] at h;split at h
  ·cases h
  ·rename_i h1
   split at h
   ·rename_i h2
    injection h with h _
    exfalso
    match l,h2,h with
    | y::l,h2,h=>
     simp only [two,Bool.and_eq_true,beq_iff_eq] at h2;obtain ⟨rfl,rfl⟩:=h2;rw [lineRest_47,lineRest_47] at h;have:=(lineRest_suf l).length_le;simp only [List.length_cons] at h;omega
    | [],h2,h=>cases h2
   ·rename_i h2
    split at h
    ·split at h
     ·rename_i r h4
      injection h with h _
      exfalso
      have h5:=(endRest_suf _ _ h4).length_le;rw [List.length_drop] at h5;simp only [List.length_cons] at h;omega
     ·cases h
    ·rename_i h3
     unfold past;rw [pastF,if_neg h1,if_neg h2,if_neg h3]
theorem gap_some {l:List UInt8} {n:Nat} (h:gapS l=(n+1,true)):n+1≤l.length∧past l=past (l.drop (n+1)):=by
 match l,h with
 | [],h=>cases h
 | c::l,h=>
  rw [gapS] at h;split at h
  ·rename_i h1
   injection h with h _
   obtain rfl:n=0:=by omega
   exact ⟨by simp,past_blank h1 l⟩
  ·rename_i h1
   split at h
   ·rename_i h2
    injection h with h _
    match l,h2,h with
    | y::l,h2,h=>
     simp only [two,Bool.and_eq_true,beq_iff_eq] at h2;obtain ⟨rfl,rfl⟩:=h2;have hsuf:=(lineRest_suf (47::47::l));have hle:=hsuf.length_le;refine ⟨by omega,?_⟩;rw [past_line,←lineRest_47 (47::l)];have h3:=List.suffix_iff_eq_drop.1 hsuf;rw [h] at h3;rw [←h3]
    | [],h2,h=>cases h2
   ·rename_i h2
    split at h
    ·rename_i h3
     split at h
     ·rename_i r h4
      injection h with h _
      match l,h3,h4,h with
      | y::l,h3,h4,h=>
       simp only [two,Bool.and_eq_true,beq_iff_eq] at h3;obtain ⟨rfl,rfl⟩:=h3;rw [List.drop_succ_cons,List.drop_zero] at h4;have hsuf:=((endRest_suf _ _ h4).trans (List.suffix_cons 42 l)).trans (List.suffix_cons 40 (42::l));have hle:=hsuf.length_le;refine ⟨by omega,?_⟩;rw [past_rem l r h4];have h5:=List.suffix_iff_eq_drop.1 hsuf;rw [h] at h5;rw [←h5]
      | [],h3,h4,h=>cases h3
     ·cases h
    ·cases h
theorem index_line:∀ l:List UInt8,(Lib.index l [10]=-1∧lineRest l=[])∨∃ i:Nat,Lib.index l [10]=i∧i+(lineRest l).length=l.length
 | []=>.inl ⟨rfl,rfl⟩
 | c::l=>by
  by_cases h:c=10
  ·subst h
   right
   refine ⟨0,?_,?_⟩
   ·unfold Lib.index
    rfl
   ·rw [lineRest,if_pos rfl];simp
  ·have h1:([10]:List UInt8).isPrefixOf (c::l)=false:=by
    simp only [List.isPrefixOf,Bool.and_true];rw [beq_eq_false_iff_ne];exact fun e=>h e.symm
   rcases index_line l with ⟨h2,h3⟩|⟨i,h2,h3⟩
   ·left
    refine ⟨?_,by rw [lineRest,if_neg h,h3]⟩;unfold Lib.index;rw [h1,h2];rfl
   ·right
    refine ⟨i+1,?_,by rw [lineRest,if_neg h,List.length_cons];omega⟩;unfold Lib.index;rw [h1,h2];have:((i:Int)==-1)=false:=by rw [beq_eq_false_iff_ne];omega
    simp [this]
theorem cut_line (l:List UInt8):(Lib.cut l [10]).1.length=l.length-(lineRest l).length:=by
 unfold Lib.cut;rcases index_line l with ⟨h1,h2⟩|⟨i,h1,h2⟩
 ·rw [h1,h2,if_neg (by omega)];simp
 ·rw [h1,if_pos (by omega)]
  simp only [Int.toNat_natCast,List.length_take];omega
theorem index_end:∀ l:List UInt8,(Lib.index l [42,41]=-1∧endRest l=none)∨∃ (i:Nat) (r:List UInt8),Lib.index l [42,41]=i∧endRest l=some r∧i+2+r.length=l.length
 | []=>.inl ⟨rfl,rfl⟩
 | c::l=>by
  have hp:([42,41]:List UInt8).isPrefixOf (c::l)=two (c::l) 42 41:=prefix2 (c::l) 42 41;by_cases h:two (c::l) 42 41=true
  ·right
   refine ⟨0,l.drop 1,?_,by rw [endRest,if_pos h],?_⟩
   ·unfold Lib.index
    rw [hp,h];rfl
   ·match l,h with
    | _::l,_=>simp;omega
    | [],h=>cases h
  ·have h1:two (c::l) 42 41=false:=Bool.eq_false_iff.2 h
   rcases index_end l with ⟨h2,h3⟩|⟨i,r,h2,h3,h4⟩
   ·left
    refine ⟨?_,by rw [endRest,if_neg h,h3]⟩;unfold Lib.index;rw [hp,h1,h2];rfl
   ·right
    refine ⟨i+1,r,?_,by rw [endRest,if_neg h,h3],by rw [List.length_cons];omega⟩;unfold Lib.index;rw [hp,h1,h2];have:((i:Int)==-1)=false:=by rw [beq_eq_false_iff_ne];omega
    simp [this]
theorem cut_end (l:List UInt8):((Lib.cut l [42,41]).2.2=false∧endRest l=none)∨∃ r,(Lib.cut l [42,41]).2.2=true∧endRest l=some r∧(Lib.cut l [42,41]).1.length+2+r.length=l.length:=by
 unfold Lib.cut;rcases index_end l with ⟨h1,h2⟩|⟨i,r,h1,h2,h3⟩
 ·left
  rw [h1,h2,if_neg (by omega)];exact ⟨rfl,rfl⟩
 ·right
  refine ⟨r,?_⟩;rw [h1,if_pos (by omega)];refine ⟨rfl,h2,?_⟩;simp only [Int.toNat_natCast,List.length_take];omega
theorem arr_size (l:List UInt8):(⟨l.toArray⟩:ByteArray).size=l.length:=by rw [Lib.size_eq]
theorem gap_any (r:ByteArray) (hs:r.size≤60000) (w:World) (hM:MaxL w):Calls Tryz.prog 69 #[.string r] w fun e w'=>e=.returned (.tuple #[.int .i64 (gapS r.data.toList).1,.bool (gapS r.data.toList).2])∧∃ n,w'=w.drewN n:=by
 by_cases h0:r.size=0
 ·have e0:=is_empty h0
  have HR:Hid (gapS r.data.toList=(0,true)):=qh (by rw [empty_str h0];rfl);clear h0 hs hM;go_enter Tryz.func69,Tryz.ntmps69
  go_wp2;go_ret2
  exact ⟨by rw [HR.out];rfl,0,rfl⟩
 ·have h1:0<r.size:=by omega
  have e0:=not_empty h1;obtain ⟨x,hx⟩:∃ x:UInt8,r[0]=x:=⟨_,rfl⟩;have hd:=dr_at h1;rw [hx,dr_zero] at hd;have hz:(0:Int)<r.size:=by omega
  have e1:=eq8n x 32 (by omega);have e2:=eq8n x 10 (by omega);have e3:=eq8n x 9 (by omega);rw [show (UInt8.ofNat 32)=32 from rfl,show ((32:Nat):Int)=32 from rfl] at e1;rw [show (UInt8.ofNat 10)=10 from rfl,show ((10:Nat):Int)=10 from rfl] at e2;rw [show (UInt8.ofNat 9)=9 from rfl,show ((9:Nat):Int)=9 from rfl] at e3;by_cases hbl:x=32∨x=10∨x=9
  ·have HR:Hid (gapS r.data.toList=(1,true)):=qh (by rw [hd,gapS,if_pos hbl])
   clear hd h0 hM;rcases hbl with rfl|rfl|rfl
   all_goals
    simp at e1 e2 e3;go_enter Tryz.func69,Tryz.ntmps69
    go_wp2;go_ret2
    exact ⟨by rw [HR.out];rfl,0,rfl⟩
  ·have b1:(x==32)=false:=by rw [beq_eq_false_iff_ne];exact fun h=>hbl (.inl h)
   have b2:(x==10)=false:=by rw [beq_eq_false_iff_ne];exact fun h=>hbl (.inr (.inl h))
   have b3:(x==9)=false:=by rw [beq_eq_false_iff_ne];exact fun h=>hbl (.inr (.inr h))
   rw [b1] at e1;rw [b2] at e2;rw [b3] at e3;obtain ⟨t1,ht1⟩:∃ t,two r.data.toList 47 47=t:=⟨_,rfl⟩;obtain ⟨t2,ht2⟩:∃ t,two r.data.toList 40 42=t:=⟨_,rfl⟩;have P1:Hid (∀ W,Calls Tryz.prog 105 #[.string r,.string ⟨#[47,47]⟩] W fun e w'=>e=.returned (.bool t1)∧W=w'):=qh fun W=>ht1 ▸ prefix2 r.data.toList 47 47 ▸ hasPrefix_any r ⟨#[47,47]⟩ W
   have P2:Hid (∀ W,Calls Tryz.prog 105 #[.string r,.string ⟨#[40,42]⟩] W fun e w'=>e=.returned (.bool t2)∧W=w'):=qh fun W=>ht2 ▸ prefix2 r.data.toList 40 42 ▸ hasPrefix_any r ⟨#[40,42]⟩ W
   have HG:gapS r.data.toList=if t1=true then (r.data.toList.length-(lineRest r.data.toList).length,true) else if t2=true then (match endRest (r.data.toList.drop 2) with|some q=>(r.data.toList.length-q.length,true)|none=>(0,false)) else (0,true):=by
    rw [←ht1,←ht2,hd,gapS,if_neg hbl];rfl
   clear b1 b2 b3 hbl;cases t1
   ·rw [if_neg (by simp)] at HG
    cases t2
    ·rw [if_neg (by simp)] at HG
     have HR:=qh HG;clear HG hd h0 hM ht1 ht2;go_enter Tryz.func69,Tryz.ntmps69
     go_wp2_with (first|(go_at_call 105;(with_reducible refine (P1.out _).mono ?_);rintro e w1 ⟨rfl,rfl⟩)|(go_at_call 105;(with_reducible refine (P2.out _).mono ?_);rintro e w1 ⟨rfl,rfl⟩))
     go_ret2
     exact ⟨by rw [HR.out];rfl,0,rfl⟩
    ·rw [if_pos rfl] at HG
     have h2:1<r.size:=two_len (s:=r) (n:=0) ht2;have z2:(2:Int)≤r.size:=by omega
     obtain ⟨E,hE⟩:∃ E:ByteArray,r.extract 2 r.size=E:=⟨_,rfl⟩;have hEl:E.data.toList=r.data.toList.drop 2:=by
      rw [←hE,extract_dr]
      show (dr r 2).take (r.size-2)=_
      rw [List.take_of_length_le (by rw [dr_len];exact Nat.le_refl _)];rfl
     have hEs:E.size≤60000:=by rw [←size_len,hEl,List.length_drop,size_len];omega
     have CU:=cut_any E ⟨#[42,41]⟩ hEs w hM;have CE:=cut_end E.data.toList;rw [show (⟨#[42,41]⟩:ByteArray).data.toList=[42,41] from rfl] at CU;obtain ⟨⟨A,B,ok⟩,hA⟩:∃ q,Lib.cut E.data.toList [42,41]=q:=⟨_,rfl⟩;rw [hA] at CU CE;rw [hEl,List.length_drop] at CE;simp only at CU CE;have hAs:=arr_size A;obtain ⟨A',hA'⟩:∃ A':ByteArray,(⟨A.toArray⟩:ByteArray)=A':=⟨_,rfl⟩;obtain ⟨B',hB'⟩:∃ B':ByteArray,(⟨B.toArray⟩:ByteArray)=B':=⟨_,rfl⟩;rw [hA'] at CU hAs;rw [hB'] at CU;rcases CE with ⟨c1,c2⟩|⟨q,c1,c2,c3⟩
     ·rw [c2] at HG
      have HR:=qh HG;rw [c1] at CU;have CU:=qh CU;clear HG hd h0 hM ht1 ht2 hEl hEs hA hA' hB' c1 c2 hAs h2;go_enter Tryz.func69,Tryz.ntmps69
      go_wp2_with (first|(go_at_call 105;(with_reducible refine (P1.out _).mono ?_);rintro e w1 ⟨rfl,rfl⟩)|(go_at_call 105;(with_reducible refine (P2.out _).mono ?_);rintro e w1 ⟨rfl,rfl⟩)|(go_at_call 106;(with_reducible refine CU.out.mono ?_);rintro e w1 ⟨rfl,n1,rfl⟩))
      go_ret2
      exact ⟨by rw [HR.out];rfl,n1,rfl⟩
     ·rw [c2] at HG
      have HG:gapS r.data.toList=(r.data.toList.length-q.length,true):=HG;have hN:A'.size+4=r.data.toList.length-q.length:=by rw [hAs];rw [size_len] at *;omega
      have wz:IntKind.i64.wrap ((A'.size:Int)+4)=((r.data.toList.length-q.length:Nat):Int):=by
       rw [←hN,IntKind.wrap_i64];rw [size_len] at *;omega
      generalize r.data.toList.length-q.length=N at *;have HR:=qh HG;rw [c1] at CU;have CU:=qh CU;clear HG hd h0 hM ht1 ht2 hEl hEs hA hA' hB' c1 c2 c3 hAs h2 hN;go_enter Tryz.func69,Tryz.ntmps69
      go_wp2_with (first|(go_at_call 105;(with_reducible refine (P1.out _).mono ?_);rintro e w1 ⟨rfl,rfl⟩)|(go_at_call 105;(with_reducible refine (P2.out _).mono ?_);rintro e w1 ⟨rfl,rfl⟩)|(go_at_call 106;(with_reducible refine CU.out.mono ?_);rintro e w1 ⟨rfl,n1,rfl⟩))
      go_ret2
      exact ⟨by rw [HR.out];rfl,n1,rfl⟩
   ·rw [if_pos rfl] at HG
    have CU:=cut_any r ⟨#[10]⟩ hs w hM;have CL:=cut_line r.data.toList;rw [show (⟨#[10]⟩:ByteArray).data.toList=[10] from rfl] at CU;obtain ⟨⟨A,B,ok⟩,hA⟩:∃ q,Lib.cut r.data.toList [10]=q:=⟨_,rfl⟩;rw [hA] at CU CL;simp only at CU CL;have hAs:=arr_size A;rw [CL] at hAs;obtain ⟨A',hA'⟩:∃ A':ByteArray,(⟨A.toArray⟩:ByteArray)=A':=⟨_,rfl⟩;obtain ⟨B',hB'⟩:∃ B':ByteArray,(⟨B.toArray⟩:ByteArray)=B':=⟨_,rfl⟩;rw [hA'] at CU hAs;rw [hB'] at CU;generalize r.data.toList.length-(lineRest r.data.toList).length=N at *;have HR:=qh HG;have CU:=qh CU;clear HG hd h0 hM ht1 ht2 hA hA' hB' CL;go_enter Tryz.func69,Tryz.ntmps69
    go_wp2_with (first|(go_at_call 105;(with_reducible refine (P1.out _).mono ?_);rintro e w1 ⟨rfl,rfl⟩)|(go_at_call 106;(with_reducible refine CU.out.mono ?_);rintro e w1 ⟨rfl,n1,rfl⟩))
    go_ret2
    exact ⟨by rw [HR.out];rfl,n1,rfl⟩
theorem gr_refl (w:World) (row:Option Nat):w.grownBy w row:=⟨rfl,rfl,rfl,Nat.le_refl _,fun _ _ _=>rfl⟩
theorem gr_trans {a b c:World} {row:Option Nat} (h:a.grownBy b row) (h2:b.grownBy c row):a.grownBy c row:=
 ⟨h2.os.trans h.os,h2.tape.trans h.tape,h2.output.trans h.output,Nat.le_trans h.size h2.size,fun q hq hr=>(h2.block q (Nat.lt_of_lt_of_le hq h.size) hr).trans (h.block q hq hr)⟩
theorem gr_of {w w':World} {row:Option Nat} (h:Below w.heap.size w w'):w.grownBy w' row:=⟨h.os,h.tape,h.output,h.size,fun q hq _=>h.block q hq⟩
theorem gr_set (w:World) (g i:Nat) (x:Value):w.grownBy (w.setCell ⟨g,i,none⟩ x) (some g):=
 ⟨rfl,rfl,rfl,by simp,fun q hq hr=>Below.heap_setCell w ⟨g,i,none⟩ x q (fun e=>hr (by rw [e]))⟩
theorem gr_drawn {w w':World} {row:Option Nat} (h:w.grownBy w' row) (n:Nat):w.grownBy (w'.drewN n) row:=⟨h.os,h.tape,h.output,h.size,h.block⟩
theorem gr_below {B g:Nat} {w w':World} (h:w.grownBy w' (some g)) (h1:B≤g) (h2:B≤w.heap.size):Below B w w':=
 ⟨h.os,h.tape,h.output,h.size,fun q hq=>h.block q (by omega) (fun e=>by injection e with e;omega)⟩
theorem gr_box {g v o:Nat} {w w':World} {vs:List Value} (h:w.grownBy w' (some g)) (hv:v<w.heap.size) (hne:v≠g) (hb:Box w v o vs):Box w' v o vs:=by
 have he:=h.block v hv (fun e=>hne (by injection e));clear hv;induction vs generalizing o with
 | nil=>trivial
 | cons u vs ih=>exact ⟨(World.cell?_of_block (a:=⟨v,o,none⟩) he).trans hb.1,(World.frozen?_of_block (a:=⟨v,o,none⟩) he).trans hb.2.1,ih hb.2.2⟩
theorem gr_then {w w' w2:World} {row:Option Nat} (h:w.grownBy w' row) (hb:Below w.heap.size w' w2):w.grownBy w2 row:=
 ⟨hb.os.trans h.os,hb.tape.trans h.tape,hb.output.trans h.output,Nat.le_trans h.size hb.size,fun q hq hr=>(hb.block q hq).trans (h.block q hq hr)⟩
theorem MaxL.gr {w w':World} {g:Nat} {r:ByteArray} (hM:MaxL w) (hc:w.cell? ⟨g,0,none⟩=some (.string r)) (h:w.grownBy w' (some g)):MaxL w':=by
 have hlt:=hM.lt;obtain ⟨m,hm⟩:=hM;refine ⟨m,(World.cell?_of_block (h.block _ hlt (fun e=>?_))).trans hm⟩;injection e with e
 subst e;rw [hm] at hc;cases hc
theorem results_no {P:Program} {fn:Func} (h:fn.results=#[]) (tmps:Array Value) (w:World):(results fn tmps).run P w=.ok (.tuple #[]) w:=by
 rw [results,h];simp
theorem end0 {P:Program} {fn:Func} {Q:Ending→World→Prop} {a:Act} {w:World} (hr:fn.results=#[]) (hd:a.defers=[]) (hQ:Q (.returned (.tuple #[])) w):bodyPost P fn Q .normal a w:=bodyPost_end (results_no hr _ _) hd hQ
theorem ret0 {P:Program} {fn:Func} {Q:Ending→World→Prop} {a:Act} {w:World} (hr:fn.results=#[]) (hd:a.defers=[]) (hQ:Q (.returned (.tuple #[])) w):bodyPost P fn Q .ret a w:=bodyPost_ret (results_no hr _ _) hd hQ
def drB (s:ByteArray) (c:Nat):ByteArray:=⟨(dr s c).toArray⟩
theorem drB_list (s:ByteArray) (c:Nat):(drB s c).data.toList=dr s c:=rfl
theorem drB_size (s:ByteArray) (c:Nat):(drB s c).size=s.size-c:=by rw [←size_len,drB_list,dr_len]
theorem drB_cut (s:ByteArray) (c m:Nat):(drB s c).extract m (drB s c).size=drB s (c+m):=by
 rw [extract_dr]
 show (⟨((dr (drB s c) m).take ((drB s c).size-m)).toArray⟩:ByteArray)=_
 rw [List.take_of_length_le (by rw [dr_len];exact Nat.le_refl _)];unfold drB;rw [←dr_drop];rfl
theorem drB_get {s:ByteArray} {c i:Nat} (h:c+i<s.size):(drB s c)[i]'(by rw [drB_size];omega)=s[c+i]:=by
 have h1:i<(dr s c).length:=by rw [dr_len];omega
 have h2:(drB s c)[i]'(by rw [drB_size];omega)=(dr s c)[i]:=by
  show (drB s c).data[i]'_=_
  simp [drB]
 rw [h2];exact List.getElem_drop (xs:=s.data.toList) (i:=c) (j:=i) (h:=h1)
def Rdr (w:World) (g:Nat) (s:ByteArray) (c:Nat):Prop:=Box w g 0 [.string (drB s c),.int .i64 (plS s c).1,.int .i64 (plS s c).2]
theorem Rdr.lt {w:World} {g:Nat} {s:ByteArray} {c:Nat} (h:Rdr w g s c):g<w.heap.size:=lt_of_cell h.1
def restLen (w:World) (g:Nat):Nat:=match w.cell? ⟨g,0,none⟩ with
 | some (.string x)=>x.size
 | _=>0
theorem Rdr.len {w:World} {g:Nat} {s:ByteArray} {c:Nat} (h:Rdr w g s c):restLen w g=s.size-c:=by
 unfold restLen;rw [h.1];exact drB_size s c
theorem rplace_any (s:ByteArray) (c g:Nat) (w:World) (hR:Rdr w g s c):Calls Tryz.prog 44 #[.pointer (some ⟨g,0,none⟩)] w fun e w'=>e=.returned (.agg #[.int .i64 0,.string ⟨#[]⟩,.int .i64 0,.int .i64 (plS s c).1,.int .i64 (plS s c).2])∧Below w.heap.size w w':=by
 have x4:=Box.new w #[.int .i64 0,.string ⟨#[]⟩,.int .i64 0,.int .i64 0,.int .i64 0] 34;have hb4:=(Below.refl w.heap.size w).alloc (Nat.le_refl _) (.cells #[.int .i64 0,.string ⟨#[]⟩,.int .i64 0,.int .i64 0,.int .i64 0] 34);have hz4:(w.alloc (.cells #[.int .i64 0,.string ⟨#[]⟩,.int .i64 0,.int .i64 0,.int .i64 0] 34)).heap.size=w.heap.size+1:=by simp
 have X4:=qh x4;have B4:=qh hb4;have Z4:=qh hz4;clear x4 hb4 hz4;have hlt:=hR.lt;have R4:Box (w.alloc (.cells #[.int .i64 0,.string ⟨#[]⟩,.int .i64 0,.int .i64 0,.int .i64 0] 34)) g 0 [.string (drB s c),.int .i64 (plS s c).1,.int .i64 (plS s c).2]:=Box.below hR ((Below.refl w.heap.size w).alloc (Nat.le_refl _) _) hlt;generalize drB s c=r at *;generalize (plS s c).1=ln at *;generalize (plS s c).2=cl at *;have hne:¬ w.heap.size=g:=by omega
 have hne2:¬ g=w.heap.size:=by omega
 clear hR hlt;go_enter Tryz.func44,Tryz.ntmps44
 go_upto_region 1 with (fail)
 generalize w.alloc (.cells #[.int .i64 0,.string ⟨#[]⟩,.int .i64 0,.int .i64 0,.int .i64 0] 34)=w4 at *;have ⟨a0,k0,a1,k1,a2,k2,_⟩:=R4;have ⟨c0,f0,c1,f1,c2,f2,c3,f3,c4,f4,_⟩:=X4.out;go_region
 obtain ⟨y0,_,hB2⟩:=Box.puts (us:=[.int .i64 0,.string ⟨#[]⟩,.int .i64 0,.int .i64 ln,.int .i64 cl]) X4.out rfl;have Y:=qh (box_drew y0);have BY:=qh (B4.out.trans (hB2 _ (Nat.le_refl _)).drew);clear y0 hB2;go_wp2;refine bodyPost_ret (results_cell rfl rfl (run_loadVar_mid _ w.heap.size 0 34 _ _ Y.out.range rfl rfl (by kernel_rfl))) rfl ?_;exact ⟨rfl,BY.out⟩
theorem pass_any (s:ByteArray) (hs:s.size≤60000) (c m g:Nat) (hcm:c+m≤s.size) (w:World) (hR:Rdr w g s c):Calls Tryz.prog 70 #[.pointer (some ⟨g,0,none⟩),.int .i64 m] w fun e w'=>e=.returned (.tuple #[])∧Rdr w' g s (c+m)∧w.grownBy w' (some g):=by
 obtain ⟨r,hr⟩:∃ r,drB s c=r:=⟨_,rfl⟩;have hsz:r.size=s.size-c:=by rw [←hr];exact drB_size s c
 have hget:∀ i (h0:i<r.size) (h:c+i<s.size),r[i]=s[c+i]:=by subst hr;exact fun i _ h=>drB_get h
 have hcut:r.extract m r.size=drB s (c+m):=by subst hr;exact drB_cut s c m
 have RR:Hid (Box w g 0 [.string r,.int .i64 (plS s c).1,.int .i64 (plS s c).2]):=qh (hr ▸ hR);have GET:=qh hget;have CUT:=qh hcut;have FIN:=qh fun (W:World) (h:Box W g 0 [.string (drB s (c+m)),.int .i64 (plS s (c+m)).1,.int .i64 (plS s (c+m)).2])=>(show Rdr W g s (c+m) from h)
 have LE:=qh fun i=>plS_le s i
 have SZ:=qh hsz;have CM:=qh hcm;have HS:=qh hs;clear hget hcut hR hr hsz hcm hs;go_enter Tryz.func70,Tryz.ntmps70
 go_wp2_with fail
 go_loopw [6] (fun s6 wr=>∃ i:Nat,i≤m∧s6=.int .i64 i∧Box wr g 0 [.string r,.int .i64 (plS s (c+i)).1,.int .i64 (plS s (c+i)).2]∧w.grownBy wr (some g)) (fun i _=>m-(intOf i).toNat)
 case atStart=>exact ⟨0,Nat.zero_le _,rfl,RR.out,gr_refl _ _⟩
 case round=>
  obtain ⟨i,hi,rfl,hB,hG⟩:=hrel;have HB:=qh hB;have HG:=qh hG;clear RR hB hG;have hsz:=SZ.out;have hcm:=CM.out;have hs:=HS.out;have w1:IntKind.i64.wrap ((i:Int)+1)=i+1:=by rw [IntKind.wrap_i64];omega
  by_cases hlt:i<m
  ·have hir:i<r.size:=by omega
   have hg:=GET.out i hir (by omega);obtain ⟨x,hx⟩:∃ x:UInt8,r[i]=x:=⟨_,rfl⟩;have hst:plS s (c+i+1)=stepP (plS s (c+i)) x:=by
    unfold plS;rw [plc_take (by omega),←hg,hx]
   have hle:=LE.out (c+i);obtain ⟨⟨ln,cl⟩,hp⟩:∃ p,plS s (c+i)=p:=⟨_,rfl⟩;rw [hp] at HB hle hst;have hz:(i:Int)<m:=by omega
   have hz2:(i:Int)<r.size:=by omega
   simp only at hle HB;have w2:IntKind.i64.wrap ((cl:Int)+1)=cl+1:=by rw [IntKind.wrap_i64];omega
   have w3:IntKind.i64.wrap ((ln:Int)+1)=ln+1:=by rw [IntKind.wrap_i64];omega
   have e2:=eq8n x 10 (by omega);rw [show (UInt8.ofNat 10)=10 from rfl,show ((10:Nat):Int)=10 from rfl] at e2;have ⟨a0,k0,a1,k1,a2,k2,_⟩:=HB.out;by_cases h10:x=10
   ·have HP:Hid (plS s (c+(i+1))=(ln+1,1)):=qh (by rw [show c+(i+1)=c+i+1 by omega,hst];unfold stepP;rw [if_pos h10])
    rw [show (x==10)=true by rw [beq_iff_eq];exact h10] at e2;clear hst hp hle hg h10 hsz hcm;go_wp2_with fail
    go_roundw
    case rel=>exact ⟨i+1,by omega,by go_num,by rw [HP.out];exact (((HB.out.put 2 (by simp) (.int .i64 (cl+1))).put 1 (by simp) (.int .i64 (ln+1))).put 2 (by simp) (.int .i64 1)),gr_trans (gr_trans (gr_trans HG.out (gr_set _ _ _ _)) (gr_set _ _ _ _)) (gr_set _ _ _ _)⟩
    case measure=>simp [intOf];omega
   ·have HP:Hid (plS s (c+(i+1))=(ln,cl+1)):=qh (by rw [show c+(i+1)=c+i+1 by omega,hst];unfold stepP;rw [if_neg h10])
    rw [show (x==10)=false by rw [beq_eq_false_iff_ne];exact h10] at e2;clear hst hp hle hg h10 hsz hcm;go_wp2_with fail
    go_roundw
    case rel=>exact ⟨i+1,by omega,by go_num,by rw [HP.out];exact (HB.out.put 2 (by simp) (.int .i64 (cl+1))),gr_trans HG.out (gr_set _ _ _ _)⟩
    case measure=>simp [intOf];omega
  ·have e:i=m:=by omega
   subst e;have hcut:=CUT.out;have z1:(i:Int)≤r.size:=by omega
   have hz:¬ (i:Int)<i:=by omega
   have ⟨a0,k0,a1,k1,a2,k2,_⟩:=HB.out;clear hsz hcm;go_wp2_with fail
   refine end0 rfl rfl ?_;exact ⟨rfl,FIN.out _ (HB.out.put 0 (by simp) _),gr_trans HG.out (gr_set _ _ _ _)⟩
theorem pastN_of {s:ByteArray} {n c:Nat} (hc:c≤s.size) (h:(past (dr s n)).2=dr s c):pastN s n=c:=by
 unfold pastN;rw [h,dr_len];omega
theorem skip_any (s:ByteArray) (hs:s.size≤60000) (c g:Nat) (hc:c≤s.size) (w:World) (hM:MaxL w) (hR:Rdr w g s c):Calls Tryz.prog 45 #[.pointer (some ⟨g,0,none⟩)] w fun e w'=>e=.returned (.bool (past (dr s c)).1)∧Rdr w' g s (pastN s c)∧w.grownBy w' (some g):=by
 obtain ⟨R,hRR⟩:∃ R,past (dr s c)=R:=⟨_,rfl⟩;have FIN:=qh fun (d:Nat) (hd:d≤s.size) (b:Bool) (W:World) (h:R=(b,dr s d)) (hW:Rdr W g s d)=>(show R.1=b∧Rdr W g s (pastN s c) from ⟨by rw [h],by rw [pastN_of hd (by rw [hRR,h])];exact hW⟩)
 have HR:=qh hRR;have RR:=qh hR;have HM:=qh hM;have HC:=qh hc;rw [hRR];have PA:=qh fun c m g h W hW=>pass_any s hs c m g h W hW
 have GA:=qh fun d W hW=>gap_any (drB s d) (by rw [drB_size];omega) W hW
 clear hRR hR hM hc hs;go_enter Tryz.func45,Tryz.ntmps45
 go_wp2_with fail
 go_loopw [5] (fun _ wr=>∃ d:Nat,d≤s.size∧Rdr wr g s d∧past (dr s d)=R∧w.grownBy wr (some g)∧MaxL wr) (fun _ wr=>restLen wr g)
 case atStart=>exact ⟨c,HC.out,RR.out,HR.out,gr_refl _ _,HM.out⟩
 case round=>
  obtain ⟨d,hd,hR,hp,hG,hM⟩:=hrel;obtain ⟨⟨N,ok⟩,hg⟩:∃ q,gapS (dr s d)=q:=⟨_,rfl⟩;have ga:=GA.out d wr hM;rw [drB_list,hg] at ga;have GB:=qh ga;have HG:=qh hG;have HX:=qh hR;have HMW:=qh hM;have L1:=qh hR.len;clear hG hM ga RR HM HR;cases ok
  ·have HE:=qh (FIN.out d hd false)
   have HP:=qh (hp.symm.trans (gap_no hg));clear hp hg hd;have ⟨a0,k0,a1,k1,a2,k2,_⟩:=hR;go_wp2_with (go_at_call 69;(with_reducible refine GB.out.mono ?_);rintro e w1 ⟨rfl,n1,rfl⟩)
   go_ret
   have h2:=HE.out _ HP.out (Box.drawn n1 HX.out);exact ⟨ret_bool h2.1.symm,h2.2,gr_drawn HG.out n1⟩
  ·cases N with
   | zero=>
    have HE:=qh (FIN.out d hd true);have HP:=qh (hp.symm.trans (gap_none hg));clear hp hg hd;have ⟨a0,k0,a1,k1,a2,k2,_⟩:=hR;go_wp2_with (go_at_call 69;(with_reducible refine GB.out.mono ?_);rintro e w1 ⟨rfl,n1,rfl⟩)
    go_ret
    have h2:=HE.out _ HP.out (Box.drawn n1 HX.out);exact ⟨ret_bool h2.1.symm,h2.2,gr_drawn HG.out n1⟩
   | succ N=>
    obtain ⟨g1,g2⟩:=gap_some hg;rw [dr_len] at g1;rw [dr_drop] at g2;have HP:Hid (past (dr s (d+(N+1)))=R):=qh (g2.symm.trans hp);have HD:Hid (d+(N+1)≤s.size):=qh (by omega);have PB:Hid (∀ W,Rdr W g s d→Calls Tryz.prog 70 #[.pointer (some ⟨g,0,none⟩),.int .i64 ((N+1:Nat):Int)] W fun e w'=>e=.returned (.tuple #[])∧Rdr w' g s (d+(N+1))∧W.grownBy w' (some g)):=qh fun W hW=>PA.out d (N+1) g (by omega) W hW
    have G1:=qh g1;obtain ⟨M,hMM⟩:∃ M,N+1=M:=⟨_,rfl⟩;rw [hMM] at GB HP HD PB G1;have hz:((M:Int)==0)=false:=by rw [beq_eq_false_iff_ne];omega
    have HMP:=qh (show 0<M by omega);clear hp hg g1 g2 hd hMM;have ⟨a0,k0,a1,k1,a2,k2,_⟩:=hR;go_wp2_with (first|(go_at_call 69;(with_reducible refine GB.out.mono ?_);rintro e w1 ⟨rfl,n1,rfl⟩;have XX:=qh (show Rdr (wr.drewN n1) g s d from Box.drawn n1 HX.out))|(go_at_call 70;(with_reducible refine (PB.out _ XX.out).mono ?_);rintro e w2 ⟨rfl,hx,hg⟩;have HX2:=qh hx;have HG2:=qh hg;clear hx hg))
    go_roundw
    case rel=>exact ⟨d+M,HD.out,HX2.out,HP.out,gr_trans (gr_drawn HG.out n1) HG2.out,MaxL.gr HMW.out HX.out.1 (gr_trans (gr_drawn (gr_refl _ _) n1) HG2.out)⟩
    case measure=>rw [L1.out,HX2.out.len];have:=HMP.out;have:=G1.out;omega
theorem take_no (s:ByteArray) (hs:s.size≤60000) (c g:Nat) (E:Int) (hf:fst0 (dr s c)=(zeroT,E)) (hE:E≠0) (w:World) (hR:Rdr w g s c):Calls Tryz.prog 46 #[.pointer (some ⟨g,0,none⟩)] w fun e w'=>e=.returned (.tuple #[.agg #[.int .i64 0,.string ⟨#[]⟩,.int .i64 0,.int .i64 0,.int .i64 0],.int .i64 E])∧Below w.heap.size w w':=by
 have x4:=Box.new w #[.int .i64 0,.string ⟨#[]⟩,.int .i64 0,.int .i64 0,.int .i64 0] 34;have hb4:=(Below.refl w.heap.size w).alloc (Nat.le_refl _) (.cells #[.int .i64 0,.string ⟨#[]⟩,.int .i64 0,.int .i64 0,.int .i64 0] 34);have hz4:(w.alloc (.cells #[.int .i64 0,.string ⟨#[]⟩,.int .i64 0,.int .i64 0,.int .i64 0] 34)).heap.size=w.heap.size+1:=by simp
 have X4:=qh x4;have B4:=qh hb4;have Z4:=qh hz4;clear x4 hb4 hz4;have FI:=first_any (drB s c) (by rw [drB_size];omega);rw [drB_list,hf] at FI;have FI:Hid (∀ W,Calls Tryz.prog 71 #[.string (drB s c)] W fun e w'=>e=.returned (.tuple #[.agg #[.int .i64 0,.string ⟨#[]⟩,.int .i64 0,.int .i64 0,.int .i64 0],.int .i64 E])∧Below W.heap.size W w'):=qh FI;have hlt:=hR.lt;have R4:=qh (Box.below hR B4.out hlt);have hz:(E==0)=false:=by rw [beq_eq_false_iff_ne];exact hE
 clear hf hE hs hR;generalize drB s c=r at *;generalize (plS s c).1=ln at *;generalize (plS s c).2=cl at *;go_enter Tryz.func46,Tryz.ntmps46
 go_upto_region 1 with (fail)
 generalize w.alloc (.cells #[.int .i64 0,.string ⟨#[]⟩,.int .i64 0,.int .i64 0,.int .i64 0] 34)=w4 at *;have ⟨a0,k0,a1,k1,a2,k2,_⟩:=R4.out;go_upto_region 2 with (go_at_call 71;(with_reducible refine (FI.out _).mono ?_);rintro e w5 ⟨rfl,hb⟩;have X5:=qh (X4.out.below hb (Nat.lt_of_lt_of_eq (Nat.lt_succ_self _) Z4.out.symm));have B5:=btr B4 hb;have S5:=qh (show w.heap.size<w5.heap.size from Nat.lt_of_lt_of_le (by have:=Z4.out;omega) hb.size);clear hb)
 have hb6:=Below.alloc (Below.refl w5.heap.size w5) (Nat.le_refl _) (.cells #[.int .i64 0,.string ⟨#[]⟩,.int .i64 0,.int .i64 0,.int .i64 0] 34);have X6:=qh (X5.out.below hb6 S5.out);have B6:=btr B5 hb6;clear hb6 a0 k0 a1 k1 a2 k2;generalize w5.alloc (.cells #[.int .i64 0,.string ⟨#[]⟩,.int .i64 0,.int .i64 0,.int .i64 0] 34)=w6 at *;have ⟨c0,f0,c1,f1,c2,f2,c3,f3,c4,f4,_⟩:=X6.out;go_wp2_with fail
 obtain ⟨y,_,hB2⟩:=Box.puts (us:=[.int .i64 0,.string ⟨#[]⟩,.int .i64 0,.int .i64 0,.int .i64 0]) X6.out rfl;refine bodyPost_ret (k.results_cell_tmp rfl rfl (run_loadVar_mid _ w.heap.size 0 34 _ _ y.range rfl rfl (by kernel_rfl))) rfl ?_;exact ⟨rfl,B6.out.trans (hB2 _ (Nat.le_refl _))⟩
theorem take_yes (s:ByteArray) (hs:s.size≤60000) (c g:Nat) (T:Tk) (hf:fst0 (dr s c)=(T,0)) (hT:c+T.text.length≤s.size) (w:World) (hR:Rdr w g s c):Calls Tryz.prog 46 #[.pointer (some ⟨g,0,none⟩)] w fun e w'=>e=.returned (.tuple #[.agg #[.int .i64 T.kind,.string ⟨T.text.toArray⟩,.int .i64 T.n,.int .i64 (plS s c).1,.int .i64 (plS s c).2],.int .i64 0])∧Rdr w' g s (c+T.text.length)∧w.grownBy w' (some g):=by
 have x4:=Box.new w #[.int .i64 0,.string ⟨#[]⟩,.int .i64 0,.int .i64 0,.int .i64 0] 34;have hb4:=(Below.refl w.heap.size w).alloc (Nat.le_refl _) (.cells #[.int .i64 0,.string ⟨#[]⟩,.int .i64 0,.int .i64 0,.int .i64 0] 34);have hz4:(w.alloc (.cells #[.int .i64 0,.string ⟨#[]⟩,.int .i64 0,.int .i64 0,.int .i64 0] 34)).heap.size=w.heap.size+1:=by simp
 have X4:=qh x4;have B4:=qh hb4;have Z4:=qh hz4;clear x4 hb4 hz4;have FI:=first_any (drB s c) (by rw [drB_size];omega);rw [drB_list,hf] at FI;have FI:Hid (∀ W,Calls Tryz.prog 71 #[.string (drB s c)] W fun e w'=>e=.returned (.tuple #[.agg #[.int .i64 T.kind,.string ⟨T.text.toArray⟩,.int .i64 T.n,.int .i64 T.line,.int .i64 T.col],.int .i64 0])∧Below W.heap.size W w'):=qh FI;have hlt:=hR.lt;have R4:=qh (Box.below hR B4.out hlt);have PA:Hid (∀ W,Rdr W g s c→Calls Tryz.prog 70 #[.pointer (some ⟨g,0,none⟩),.int .i64 T.text.length] W fun e w'=>e=.returned (.tuple #[])∧Rdr w' g s (c+T.text.length)∧W.grownBy w' (some g)):=qh fun W hW=>pass_any s hs c _ g hT W hW
 have RDR:=qh (show ∀ W,Box W g 0 [.string (drB s c),.int .i64 (plS s c).1,.int .i64 (plS s c).2]→Rdr W g s c from fun W h=>h);have hlen:(⟨T.text.toArray⟩:ByteArray).size=T.text.length:=arr_size _;clear hf hs hR hT;generalize drB s c=r at *;generalize (plS s c).1=ln at *;generalize (plS s c).2=cl at *;obtain ⟨kd,tx,nn,l0,c0⟩:=T;simp only at FI PA hlen;generalize tx.length=N at *;generalize (⟨tx.toArray⟩:ByteArray)=X at *;go_enter Tryz.func46,Tryz.ntmps46
 go_upto_region 1 with (fail)
 generalize w.alloc (.cells #[.int .i64 0,.string ⟨#[]⟩,.int .i64 0,.int .i64 0,.int .i64 0] 34)=w4 at *;have ⟨a0,k0,a1,k1,a2,k2,_⟩:=R4.out;go_upto_region 2 with (go_at_call 71;(with_reducible refine (FI.out _).mono ?_);rintro e w5 ⟨rfl,hb⟩;have X5:=qh (X4.out.below hb (Nat.lt_of_lt_of_eq (Nat.lt_succ_self _) Z4.out.symm));have B5:=btr B4 hb;have S5:=qh (show w.heap.size<w5.heap.size from Nat.lt_of_lt_of_le (by have:=Z4.out;omega) hb.size);have R5:=qh (R4.out.below hb (by have:=Z4.out;omega));clear hb)
 have hb6:=Below.alloc (Below.refl w5.heap.size w5) (Nat.le_refl _) (.cells #[.int .i64 kd,.string X,.int .i64 nn,.int .i64 l0,.int .i64 c0] 34);have N6:=Box.new w5 #[.int .i64 kd,.string X,.int .i64 nn,.int .i64 l0,.int .i64 c0] 34;have hz6:(w5.alloc (.cells #[.int .i64 kd,.string X,.int .i64 nn,.int .i64 l0,.int .i64 c0] 34)).heap.size=w5.heap.size+1:=by simp
 have X6:=qh (X5.out.below hb6 S5.out);have R6:=qh (R5.out.below hb6 (by have:=S5.out;omega));have B6:=btr B5 hb6;clear hb6 a0 k0 a1 k1 a2 k2;generalize w5.alloc (.cells #[.int .i64 kd,.string X,.int .i64 nn,.int .i64 l0,.int .i64 c0] 34)=w6 at *;have S5:=S5.out;generalize w5.heap.size=g5 at *;have ⟨a0,k0,a1,k1,a2,k2,_⟩:=R6.out;have ⟨c0,f0,c1,f1,c2,f2,c3,f3,c4,f4,_⟩:=N6;have hne:¬ g5=g:=by omega
 have hne2:¬ g=g5:=by omega
 go_upto_region 4 with (fail)
 go_region
 have n7:=box_drew ((Box.put N6 3 (by simp) (.int .i64 ln)).put 4 (by simp) (.int .i64 cl));have x7:=box_drew (Box_aside (show g5≠w.heap.size by omega) (i:=4) (.int .i64 cl) (Box_aside (show g5≠w.heap.size by omega) (i:=3) (.int .i64 ln) X6.out));have r7:=box_drew (Box_aside hne (i:=4) (.int .i64 cl) (Box_aside hne (i:=3) (.int .i64 ln) R6.out));have b7:=((B6.out.setCell (p:=⟨g5,3,none⟩) (show w.heap.size≤g5 by omega) (.int .i64 ln)).setCell (p:=⟨g5,4,none⟩) (show w.heap.size≤g5 by omega) (.int .i64 cl)).drew;have s7:(((w6.setCell ⟨g5,3,none⟩ (.int .i64 ln)).setCell ⟨g5,4,none⟩ (.int .i64 cl)).drew).heap.size=g5+1:=by
  show ((w6.setCell ⟨g5,3,none⟩ (.int .i64 ln)).setCell ⟨g5,4,none⟩ (.int .i64 cl)).heap.size=_
  simp [hz6]
 clear a0 k0 a1 k1 a2 k2 c0 f0 c1 f1 c2 f2 c3 f3 c4 f4 N6 X6 R6 B6 hz6;generalize (((w6.setCell ⟨g5,3,none⟩ (.int .i64 ln)).setCell ⟨g5,4,none⟩ (.int .i64 cl)).drew)=w7 at *;simp only [List.set_cons_succ,List.set_cons_zero] at n7;have N7:=qh n7;have X7:=qh x7;have R7:=qh (RDR.out _ r7);have B7:=qh b7;have S7:=qh s7;have HLT:=qh hlt;have HG5:=qh S5;have NE:=qh (show w.heap.size≠g by omega);have ⟨c0,f0,c1,f1,c2,f2,c3,f3,c4,f4,_⟩:=n7;clear n7 x7 r7 b7 s7 hne hne2 S5 hlt;go_wp2_with (go_at_call 70;fail)
 with_reducible refine (PA.out _ R7.out).mono ?_
 rintro e w8 ⟨rfl,hx,hg⟩;have N8:=qh (gr_box hg (by have:=S7.out;omega) (by have:=HG5.out;have:=HLT.out;omega) N7.out);have X8:=qh (gr_box hg (by have:=S7.out;have:=HG5.out;omega) NE.out X7.out);have R8:=qh hx;have G8:=qh (gr_trans (gr_of B7.out) hg);clear hx hg c0 f0 c1 f1 c2 f2 c3 f3 c4 f4 PA RDR FI N7 X7 R7;have ⟨d0,_,d1,_,d2,_,d3,_,d4,_,_⟩:=N8.out;have ⟨c0,f0,c1,f1,c2,f2,c3,f3,c4,f4,_⟩:=X8.out;go_wp2_with fail
 obtain ⟨y,_,hB2⟩:=Box.puts (us:=[.int .i64 kd,.string X,.int .i64 nn,.int .i64 ln,.int .i64 cl]) X8.out rfl;have yr:Rdr (k.puts w8 w.heap.size 0 [.int .i64 kd,.string X,.int .i64 nn,.int .i64 ln,.int .i64 cl]) g s (c+N):=Box_puts_aside NE.out [.int .i64 kd,.string X,.int .i64 nn,.int .i64 ln,.int .i64 cl] 0 w8 R8.out;have yg:w.grownBy (k.puts w8 w.heap.size 0 [.int .i64 kd,.string X,.int .i64 nn,.int .i64 ln,.int .i64 cl]) (some g):=gr_then G8.out (hB2 _ (Nat.le_refl _));refine bodyPost_ret (k.results_cell_tmp rfl rfl (run_loadVar_mid _ w.heap.size 0 34 _ _ y.range rfl rfl (by kernel_rfl))) rfl ?_;exact ⟨rfl,yr,yg⟩
theorem gr_row {v o:Nat} {w w':World} {row:Option Nat} {vs:List Value} (h:w.grownBy w' row) (hv:v<w.heap.size) (hne:some v≠row) (hb:Box w v o vs):Box w' v o vs:=by
 have he:=h.block v hv hne;clear hv hne;induction vs generalizing o with
 | nil=>trivial
 | cons u vs ih=>exact ⟨(World.cell?_of_block (a:=⟨v,o,none⟩) he).trans hb.1,(World.frozen?_of_block (a:=⟨v,o,none⟩) he).trans hb.2.1,ih hb.2.2⟩
theorem sgn_kind {r:List UInt8} {k:Int} {v n:Nat} (h:sgn r=(0,k,v,n)):(k==0)=false:=by
 unfold sgn at h;split at h
 ·simp at h
 ·split at h
  ·simp only at h
   split at h
   ·injection h with _ h
    injection h with h _
    rw [←h];rfl
   ·split at h
    ·injection h with h _
     exact absurd h (by decide)
    ·injection h with _ h
     injection h with h _
     rw [←h];rfl
  ·split at h
   ·simp only at h
    split at h
    ·injection h with _ h
     injection h with h _
     rw [←h];rfl
    ·rename_i h2
     injection h with h _
     exact absurd h h2
   ·simp only at h
    split at h
    ·injection h with h _
     exact absurd h (by decide)
    ·injection h with _ h
     injection h with h _
     rw [←h];rfl
theorem ow_aside {w w':World} {g:Nat} {v:Value} {L:List Tk} (hO:Ow tC 5 34 w (g+1) v L) (h:w.grownBy w' (some g)):Ow tC 5 34 w' (g+1) v L:=by
 refine hO.kept h ?_;cases hv:v.ownBlock with
 | none=>exact .inl rfl
 | some b=>
  right
  intro e;injection e with e
  have:=(World.ownsRow.lt hO b hv).1;omega
theorem dr0 (s:ByteArray):drB s 0=s:=mk_str s
theorem rdr_start {w:World} {g:Nat} {s:ByteArray} (h:Box w g 0 [.string s,.int .i64 1,.int .i64 1]):Rdr w g s 0:=by
 unfold Rdr;rw [dr0];exact h
def GotB (s:ByteArray) (w:World) (e:Ending) (w':World):Prop:=
 ∃ A n c,e=.returned (.tuple #[.slice A n c,.int .i64 (lex s.data.toList).1,.agg (tC (lex s.data.toList).2.2).toArray])∧rr.Rd tC 5 w' w'.heap.size A n c (lex s.data.toList).2.1∧Below w.heap.size w w'∧∀ q,(Value.slice A n c).ownBlock=some q→w.heap.size≤q
theorem lex_any (s:ByteArray) (hs:s.size≤60000) (w:World) (hM:MaxL w):Calls Tryz.prog 23 #[.string s] w (GotB s w):=by
 have x4:=Box.new w #[.int .i64 0,.string ⟨#[]⟩,.int .i64 0,.int .i64 0,.int .i64 0] 34;have hz4:(w.alloc (.cells #[.int .i64 0,.string ⟨#[]⟩,.int .i64 0,.int .i64 0,.int .i64 0] 34)).heap.size=w.heap.size+1:=by simp
 have x5:=Box.new (w.alloc (.cells #[.int .i64 0,.string ⟨#[]⟩,.int .i64 0,.int .i64 0,.int .i64 0] 34)) #[.string s,.int .i64 1,.int .i64 1] 95;have hb4:=(Below.refl w.heap.size w).alloc (Nat.le_refl _) (.cells #[.int .i64 0,.string ⟨#[]⟩,.int .i64 0,.int .i64 0,.int .i64 0] 34);have hb5:=(Below.refl (w.alloc (.cells #[.int .i64 0,.string ⟨#[]⟩,.int .i64 0,.int .i64 0,.int .i64 0] 34)).heap.size (w.alloc (.cells #[.int .i64 0,.string ⟨#[]⟩,.int .i64 0,.int .i64 0,.int .i64 0] 34))).alloc (Nat.le_refl _) (.cells #[.string s,.int .i64 1,.int .i64 1] 95);have hz5:((w.alloc (.cells #[.int .i64 0,.string ⟨#[]⟩,.int .i64 0,.int .i64 0,.int .i64 0] 34)).alloc (.cells #[.string s,.int .i64 1,.int .i64 1] 95)).heap.size=w.heap.size+2:=by simp
 have y4:=x4.below hb5 (by omega);have b5:=hb4.trans (hb5.mono hb4.size);rw [hz4] at x5;have m5:=hM.below b5;have MW:=qh hM;have X5:=qh y4;have R5:=qh (rdr_start x5);have B5:=qh b5;have Z5:=qh hz5;have M5:=qh m5;clear x4 hz4 x5 hb4 hb5 hz5 y4 b5 m5 hM;have PLA:=qh fun c W h=>rplace_any s c (w.heap.size+1) W h
 have SKI:=qh fun c hc W hM h=>skip_any s hs c (w.heap.size+1) hc W hM h
 have TNO:=qh fun c E hf hE W h=>take_no s hs c (w.heap.size+1) E hf hE W h
 have TYE:=qh fun c T hf hT W h=>take_yes s hs c (w.heap.size+1) T hf hT W h
 by_cases hlong:16384<s.size
 ·have HL:Hid (lex s.data.toList=(13,[],atP (1,1))):=qh (by
   unfold lex;rw [size_len,if_pos hlong])
  have hlz:(16384:Int)<s.size:=by omega
  clear hs hlong;go_enter Tryz.func23,Tryz.ntmps23
  go_upto_region 2 with (fail)
  generalize ((w.alloc (.cells #[.int .i64 0,.string ⟨#[]⟩,.int .i64 0,.int .i64 0,.int .i64 0] 34)).alloc (.cells #[.string s,.int .i64 1,.int .i64 1] 95))=w5 at *;go_wp2_with (go_at_call 44;fail)
  with_reducible refine (PLA.out 0 _ R5.out).mono ?_
  rintro e w6 ⟨rfl,hb⟩;have X6:=qh (X5.out.below hb (by have:=Z5.out;omega));have B6:=btr B5 hb;clear hb;have ⟨c0,f0,c1,f1,c2,f2,c3,f3,c4,f4,_⟩:=X6.out;go_wp2_with fail
  obtain ⟨y,_,hB2⟩:=Box.puts (us:=[.int .i64 0,.string ⟨#[]⟩,.int .i64 0,.int .i64 (plS s 0).1,.int .i64 (plS s 0).2]) X6.out rfl;refine bodyPost_ret (results_ttc rfl rfl (run_loadVar_mid _ w.heap.size 0 34 _ _ y.range rfl rfl (by kernel_rfl))) rfl ?_;refine ⟨none,0,0,?_,?_,B6.out.trans (hB2 _ (Nat.le_refl _)),fun q e=>by cases e⟩
  ·rw [HL.out];rfl
  ·rw [HL.out];exact Rd.none_ _ _ _ _
 ·have HL:Hid (lex s.data.toList=lexF s.data.toList (s.size+1) (dr s 0) []):=qh (by
   unfold lex;rw [size_len,if_neg hlong];rfl)
  have hlz:¬ ((16384:Int)<s.size):=by omega
  have HSZ:=qh (show s.size≤16384 by omega);have GOT:=qh (show ∀ e w',(∃ A n c,e=.returned (.tuple #[.slice A n c,.int .i64 (lex s.data.toList).1,.agg (tC (lex s.data.toList).2.2).toArray])∧rr.Rd tC 5 w' w'.heap.size A n c (lex s.data.toList).2.1∧Below w.heap.size w w'∧∀ q,(Value.slice A n c).ownBlock=some q→w.heap.size≤q)→GotB s w e w' from fun e w' h=>h);obtain ⟨R,hR⟩:∃ R,lex s.data.toList=R:=⟨_,rfl⟩;rw [hR] at HL GOT;clear hlong hR hs;go_enter Tryz.func23,Tryz.ntmps23
  go_upto_region 2 with (fail)
  generalize ((w.alloc (.cells #[.int .i64 0,.string ⟨#[]⟩,.int .i64 0,.int .i64 0,.int .i64 0] 34)).alloc (.cells #[.string s,.int .i64 1,.int .i64 1] 95))=w5 at *;go_upto_region 5 with (fail)
  clear hlz;go_loopw [6] (fun s6 wr=>∃ (c f:Nat) (acc:List Tk),c≤s.size∧acc.length≤c+1∧rr.Ow tC 5 34 wr (w.heap.size+1+1) s6 acc∧Box wr w.heap.size 0 [.int .i64 0,.string ⟨#[]⟩,.int .i64 0,.int .i64 0,.int .i64 0]∧Rdr wr (w.heap.size+1) s c∧Below w.heap.size w wr∧w.heap.size+2≤wr.heap.size∧s.size-c<f∧lexF s.data.toList f (dr s c) acc=R∧MaxL wr) (fun _ wr=>restLen wr (w.heap.size+1))
  case atStart=>exact ⟨0,s.size+1,[],Nat.zero_le _,Nat.zero_le _,Ow.nil _ _ _ _ _,X5.out,R5.out,B5.out,Nat.le_of_eq Z5.out.symm,by omega,HL.out.symm,M5.out⟩
  case round=>
   obtain ⟨c,f,acc,hc,hacc,hO,hX,hRd,hB,hz,hf,hR,hM⟩:=hrel;clear X5 R5 B5 Z5 M5 HL;obtain ⟨f,rfl⟩:∃ f0,f=f0+1:=⟨f-1,by omega⟩;have HO:=qh hO;have HX:=qh hX;have HB:=qh hB;have HZ:=qh hz;have HA:=qh hacc;have HF:=qh hf;have HM:=qh hM;have HD:=qh hRd;have L0:=qh hRd.len;obtain ⟨p1,p2,p3⟩:=pastN_dr (s:=s) hc;have SK:=SKI.out c hc wr hM hRd;obtain ⟨m,hm⟩:∃ m,pastN s c=m:=⟨_,rfl⟩;obtain ⟨ok,hok⟩:∃ ok,(past (dr s c)).1=ok:=⟨_,rfl⟩;rw [hm] at p1 p2 p3 SK;rw [hok] at SK;have SK:=qh SK;have HP:=plS_at s p3;have HCM:=qh p2;clear hO hX hB hz hacc hf hM hRd hm;go_wp2_with (go_at_call 45;fail)
   with_reducible refine SK.out.mono ?_
   rintro e w1 ⟨rfl,hx,hg⟩;have O1:=qh (ow_aside HO.out hg);have X1:=qh (gr_box hg (by have:=HZ.out;omega) (by omega) HX.out);have B1:=qh (HB.out.trans (gr_below hg (Nat.le_succ _) HB.out.size));have Z1:=qh (Nat.le_trans HZ.out hg.size);have M1:=qh (MaxL.gr HM.out HD.out.1 hg);have R1:=qh hx;clear hx hg HO HX HB HZ HM HD SK;cases ok
   ·rw [lexF_bad hok,p1,HP] at hR
    have HR:=qh hR;clear hR hok p1 HP p2 p3;go_wp2_with (go_at_call 44;fail)
    with_reducible refine (PLA.out m _ R1.out).mono ?_
    rintro e w6 ⟨rfl,hb⟩;have X6:=qh (X1.out.below hb (by have:=Z1.out;omega));have B6:=btr B1 hb;clear hb;have ⟨c0,f0,c1,f1,c2,f2,c3,f3,c4,f4,_⟩:=X6.out;go_wp2_with fail
    obtain ⟨y,_,hB2⟩:=Box.puts (us:=[.int .i64 0,.string ⟨#[]⟩,.int .i64 0,.int .i64 (plS s m).1,.int .i64 (plS s m).2]) X6.out rfl;refine bodyPost_ret (results_ttc rfl rfl (run_loadVar_mid _ w.heap.size 0 34 _ _ y.range rfl rfl (by kernel_rfl))) rfl ?_;refine GOT.out _ _ ⟨none,0,0,?_,?_,B6.out.trans (hB2 _ (Nat.le_refl _)),fun q e=>by cases e⟩
    ·rw [←HR.out];rfl
    ·rw [←HR.out];exact Rd.none_ _ _ _ _
   ·by_cases hend:m=s.size
    ·have hd:dr s m=[]:=dr_end (by omega)
     have TY:=TYE.out m zeroT (by rw [hd];rfl) (by show m+0≤_;omega) w1 R1.out;rw [lexF_end hok (by rw [p1,hd]),←hd,HP] at hR;have HR:=qh hR;obtain ⟨⟨l,q⟩,hlq⟩:∃ q,plS s m=q:=⟨_,rfl⟩;rw [hlq] at TY HR;have TY:Hid (Calls Tryz.prog 46 #[.pointer (some ⟨w.heap.size+1,0,none⟩)] w1 fun e w'=>e=.returned (.tuple #[.agg #[.int .i64 0,.string ⟨#[]⟩,.int .i64 0,.int .i64 l,.int .i64 q],.int .i64 0])∧Rdr w' (w.heap.size+1) s m∧w1.grownBy w' (some (w.heap.size+1))):=qh TY;have HC:=qh hc;have MB:=qh (MaxL.lt MW.out);clear hR hok p1 HP p2 p3 hd hlq hend hc;go_wp2_with (go_at_call 46;fail)
     with_reducible refine TY.out.mono ?_
     rintro e w2 ⟨rfl,hx,hg⟩;have O2:=qh (ow_aside O1.out hg);have X2:=qh (gr_box hg (by have:=Z1.out;omega) (by omega) X1.out);have B2:=qh (B1.out.trans (gr_below hg (Nat.le_succ _) B1.out.size));have Z2:=qh (Nat.le_trans Z1.out hg.size);have M2:=qh (MaxL.gr M1.out R1.out.1 hg);have R2:=qh hx;clear hx hg O1 X1 B1 Z1 M1 R1 TY;go_upto_region 8 with (fail)
     have hb3:=Below.alloc (Below.refl w2.heap.size w2) (Nat.le_refl _) (.cells #[.int .i64 0,.string ⟨#[]⟩,.int .i64 0,.int .i64 l,.int .i64 q] 34);have N3:=Box.new w2 #[.int .i64 0,.string ⟨#[]⟩,.int .i64 0,.int .i64 l,.int .i64 q] 34;have hz3:(w2.alloc (.cells #[.int .i64 0,.string ⟨#[]⟩,.int .i64 0,.int .i64 l,.int .i64 q] 34)).heap.size=w2.heap.size+1:=by simp
     have O3:=qh (O2.out.under hb3);have X3:=qh (X2.out.below hb3 (by have:=Z2.out;omega));have B3:=btr B2 hb3;have M3:=qh (M2.out.below hb3);have R3:=qh (show Rdr _ (w.heap.size+1) s _ from Box.below R2.out hb3 (by have:=Z2.out;omega));have OL:=qh (fun b hb=>(World.ownsRow.lt O2.out b hb).2);have Z2:=Z2.out;generalize w2.alloc (.cells #[.int .i64 0,.string ⟨#[]⟩,.int .i64 0,.int .i64 l,.int .i64 q] 34)=w3 at *;generalize w2.heap.size=g3 at *;have N3:=qh N3;have Z3:=qh (show w.heap.size+2≤w3.heap.size by omega);have G3:=qh (show g3<w3.heap.size by omega);have GZ:=qh Z2;clear hb3 O2 X2 B2 M2 R2 Z2 hz3;have ⟨d0,_,d1,_,d2,_,d3,_,d4,_,_⟩:=N3.out;have hb6:=Below.alloc (Below.refl w3.heap.size w3) (Nat.le_refl _) (.cells #[.int .i64 0,.string ⟨#[]⟩,.int .i64 0,.int .i64 l,.int .i64 q] 34);have O6:=qh (O3.out.under hb6);have N6:=qh (N3.out.below hb6 G3.out);have B6:=qh (hb6.mono Z3.out);have S6:=qh (Nat.le_trans Z3.out hb6.size);have GS:=qh (Nat.lt_of_lt_of_le G3.out hb6.size);have LM:=qh (show acc.length+1≤60000 by have:=HA.out;have:=HSZ.out;have:=HC.out;omega);clear hb6 O3;go_upto_region 11 with (at_builtin;refine wpList_append_row tC_len (by omega) tC_one toks_slice tok_info rfl (by omega) _ rfl (.tmp 26) (.tmp 28) rfl (w.heap.size+1+1) _ acc rfl O6.out (w3.heap.size+1) (some ⟨w3.heap.size,0,none⟩) 1 1 [⟨0,[],0,l,q⟩] rfl (one_row w3 _ (⟨0,[],0,l,q⟩:Tk) _ rfl) LM.out S6.out ?_;intro v1 w7 hown hg hat;have O7:=qh hown;have B7:=qh (O6.out.lays B6.out (Nat.le_refl _) Z3.out hg);have N7:=qh (gr_row hg GS.out (fun e=>by have:=OL.out _ e.symm;omega) N6.out);clear hown hg hat)
     have X7:=qh (X3.out.below B7.out (by omega));have R7:=qh (show Rdr w7 (w.heap.size+1) s _ from Box.below R3.out B7.out (by omega));have M7:=qh (M3.out.under (base:=w.heap.size+2) (by have:=M3.out.lt;have:=MB.out;omega) B7.out);clear X3 R3 M3 O6 N6 B6 S6 GS OL d0 d1 d2 d3 d4;have ⟨d0,_⟩:=N7.out;have ⟨c0,f0,c1,f1,c2,f2,c3,f3,c4,f4,_⟩:=X7.out;go_wp2_with fail
     obtain ⟨y,hsz,hB2⟩:=Box.puts (us:=[.int .i64 0,.string ⟨#[]⟩,.int .i64 0,.int .i64 0,.int .i64 0]) X7.out rfl;obtain ⟨A,cap,rfl,hr⟩:=form_above tC_len O7.out (Above.puts (vs:=[.int .i64 0,.string ⟨#[]⟩,.int .i64 0,.int .i64 0,.int .i64 0]) (o:=0) (show w.heap.size<w.heap.size+1+1 by omega) (Above.refl _ _)) hsz;refine bodyPost_ret (results_ttc rfl rfl (run_loadVar_mid _ w.heap.size 0 34 _ _ y.range rfl rfl (by kernel_rfl))) rfl ?_;refine GOT.out _ _ ⟨A,(acc++[(⟨0,[],0,l,q⟩:Tk)]).length,cap,?_,?_,(B3.out.trans (B7.out.mono (by omega))).trans (hB2 _ (Nat.le_refl _)),fun q e=>by have:=(World.ownsRow.lt O7.out q e).1;omega⟩
     ·rw [←HR.out];rfl
     ·rw [←HR.out];exact hr
    ·have hml:m<s.size:=by omega
     have hd:=dr_at hml;have hne:(past (dr s c)).2≠[]:=by rw [p1,hd];simp
     have hf0:fst0 (dr s m)=fst1 (dr s m):=by unfold fst0;rw [if_neg (by rw [hd];simp)]
     obtain ⟨⟨er,kd,v,n⟩,hsg⟩:∃ q,sgn (dr s m)=q:=⟨_,rfl⟩;by_cases he:er=0
     ·subst he
      have hn:=sgn_len hsg;rw [dr_len] at hn;have hkd:=sgn_kind hsg;obtain ⟨T,hT⟩:∃ T,(dr s m).take n=T:=⟨_,rfl⟩;have hTl:T.length=n:=by rw [←hT,List.length_take,dr_len];omega
      have TY:=TYE.out m ⟨kd,T,v,0,0⟩ (by rw [hf0,fst1_yes hsg,hT]) (by show m+T.length≤_;omega) w1 R1.out;rw [lexF_tok hok hne (by rw [p1,hsg])] at hR;rw [p1,hsg,HP,dr_drop] at hR;simp only at hR;rw [hT] at hR;obtain ⟨⟨l,q⟩,hlq⟩:∃ q,plS s m=q:=⟨_,rfl⟩;obtain ⟨en,hen⟩:∃ en,m+n=en:=⟨_,rfl⟩;rw [hlq,hen] at hR;rw [hlq] at TY;have HR:=qh hR;have TY:Hid (Calls Tryz.prog 46 #[.pointer (some ⟨w.heap.size+1,0,none⟩)] w1 fun e w'=>e=.returned (.tuple #[.agg #[.int .i64 kd,.string ⟨T.toArray⟩,.int .i64 v,.int .i64 l,.int .i64 q],.int .i64 0])∧Rdr w' (w.heap.size+1) s en∧w1.grownBy w' (some (w.heap.size+1))):=qh (by
       have h:=TY;simp only at h;rw [hTl,hen] at h;exact h)
      have HC:=qh hc;have MB:=qh (MaxL.lt MW.out);have EN:=qh (show c+1≤en∧en≤s.size∧m<en by omega);clear hR hok p1 HP p2 p3 hd hlq hend hc hne hf0 hsg hn hT hTl hen hml;go_wp2_with (go_at_call 46;fail)
      with_reducible refine TY.out.mono ?_
      rintro e w2 ⟨rfl,hx,hg⟩;have O2:=qh (ow_aside O1.out hg);have X2:=qh (gr_box hg (by have:=Z1.out;omega) (by omega) X1.out);have B2:=qh (B1.out.trans (gr_below hg (Nat.le_succ _) B1.out.size));have Z2:=qh (Nat.le_trans Z1.out hg.size);have M2:=qh (MaxL.gr M1.out R1.out.1 hg);have R2:=qh hx;clear hx hg O1 X1 B1 Z1 M1 R1 TY;go_upto_region 8 with (fail)
      have hb3:=Below.alloc (Below.refl w2.heap.size w2) (Nat.le_refl _) (.cells #[.int .i64 kd,.string ⟨T.toArray⟩,.int .i64 v,.int .i64 l,.int .i64 q] 34);have N3:=Box.new w2 #[.int .i64 kd,.string ⟨T.toArray⟩,.int .i64 v,.int .i64 l,.int .i64 q] 34;have hz3:(w2.alloc (.cells #[.int .i64 kd,.string ⟨T.toArray⟩,.int .i64 v,.int .i64 l,.int .i64 q] 34)).heap.size=w2.heap.size+1:=by simp
      have O3:=qh (O2.out.under hb3);have X3:=qh (X2.out.below hb3 (by have:=Z2.out;omega));have B3:=btr B2 hb3;have M3:=qh (M2.out.below hb3);have R3:=qh (show Rdr _ (w.heap.size+1) s _ from Box.below R2.out hb3 (by have:=Z2.out;omega));have OL:=qh (fun b hb=>(World.ownsRow.lt O2.out b hb).2);have Z2:=Z2.out;generalize w2.alloc (.cells #[.int .i64 kd,.string ⟨T.toArray⟩,.int .i64 v,.int .i64 l,.int .i64 q] 34)=w3 at *;generalize w2.heap.size=g3 at *;have N3:=qh N3;have Z3:=qh (show w.heap.size+2≤w3.heap.size by omega);have G3:=qh (show g3<w3.heap.size by omega);have GZ:=qh Z2;clear hb3 O2 X2 B2 M2 R2 Z2 hz3;have ⟨d0,_,d1,_,d2,_,d3,_,d4,_,_⟩:=N3.out;have hb6:=Below.alloc (Below.refl w3.heap.size w3) (Nat.le_refl _) (.cells #[.int .i64 kd,.string ⟨T.toArray⟩,.int .i64 v,.int .i64 l,.int .i64 q] 34);have O6:=qh (O3.out.under hb6);have N6:=qh (N3.out.below hb6 G3.out);have B6:=qh (hb6.mono Z3.out);have S6:=qh (Nat.le_trans Z3.out hb6.size);have GS:=qh (Nat.lt_of_lt_of_le G3.out hb6.size);have LM:=qh (show acc.length+1≤60000 by have:=HA.out;have:=HSZ.out;have:=HC.out;omega);clear hb6 O3;go_upto_region 11 with (at_builtin;refine wpList_append_row tC_len (by omega) tC_one toks_slice tok_info rfl (by omega) _ rfl (.tmp 26) (.tmp 28) rfl (w.heap.size+1+1) _ acc rfl O6.out (w3.heap.size+1) (some ⟨w3.heap.size,0,none⟩) 1 1 [⟨kd,T,v,l,q⟩] rfl (one_row w3 _ (⟨kd,T,v,l,q⟩:Tk) _ rfl) LM.out S6.out ?_;intro v1 w7 hown hg hat;have O7:=qh hown;have B7:=qh (O6.out.lays B6.out (Nat.le_refl _) Z3.out hg);have N7:=qh (gr_row hg GS.out (fun e=>by have:=OL.out _ e.symm;omega) N6.out);clear hown hg hat)
      have X7:=qh (X3.out.below B7.out (by omega));have R7:=qh (show Rdr w7 (w.heap.size+1) s _ from Box.below R3.out B7.out (by omega));have M7:=qh (M3.out.under (base:=w.heap.size+2) (by have:=M3.out.lt;have:=MB.out;omega) B7.out);clear X3 R3 M3 O6 N6 B6 S6 GS OL d0 d1 d2 d3 d4;have ⟨d0,_⟩:=N7.out;go_wp2_with fail
      go_roundw
      case rel=>
       have hE:=EN.out;refine ⟨en,f,acc++[⟨kd,T,v,l,q⟩],hE.2.1,?_,O7.out,X7.out,R7.out,B3.out.trans (B7.out.mono (by omega)),Nat.le_trans Z3.out B7.out.size,by have:=HF.out;omega,HR.out,M7.out⟩;rw [List.length_append];have:=HA.out;simp;omega
      case measure=>rw [L0.out,R7.out.len];have hE:=EN.out;omega
     ·have TN:=qh (TNO.out m er (by rw [hf0,fst1_no hsg he]) he w1 R1.out)
      rw [lexF_err hok hne (by rw [p1,hsg];exact he),p1,HP,hsg] at hR;have HR:=qh hR;have hz:(er==0)=false:=by rw [beq_eq_false_iff_ne];exact he
      clear hR hok p1 HP p2 p3 hd hend hc hne hf0 hsg hml he;go_wp2_with (go_at_call 46;fail)
      with_reducible refine TN.out.mono ?_
      rintro e w2 ⟨rfl,hb2⟩;have X2:=qh (X1.out.below hb2 (by have:=Z1.out;omega));have R2:=qh (show Rdr w2 (w.heap.size+1) s m from Box.below R1.out hb2 (by have:=Z1.out;omega));have B2:=btr B1 hb2;have Z2:=qh (Nat.le_trans Z1.out hb2.size);clear hb2 TN;go_upto_region 8 with (fail)
      have hb3:=Below.alloc (Below.refl w2.heap.size w2) (Nat.le_refl _) (.cells #[.int .i64 0,.string ⟨#[]⟩,.int .i64 0,.int .i64 0,.int .i64 0] 34);have X3:=qh (X2.out.below hb3 (by have:=Z2.out;omega));have R3:=qh (show Rdr _ (w.heap.size+1) s m from Box.below R2.out hb3 (by have:=Z2.out;omega));have B3:=btr B2 hb3;have Z3:=qh (Nat.le_trans Z2.out hb3.size);clear hb3;generalize w2.alloc (.cells #[.int .i64 0,.string ⟨#[]⟩,.int .i64 0,.int .i64 0,.int .i64 0] 34)=w3 at *;go_wp2_with (go_at_call 44;fail)
      with_reducible refine (PLA.out m _ R3.out).mono ?_
      rintro e w6 ⟨rfl,hb⟩;have X6:=qh (X3.out.below hb (by have:=Z3.out;omega));have B6:=btr B3 hb;clear hb;have ⟨c0,f0,c1,f1,c2,f2,c3,f3,c4,f4,_⟩:=X6.out;go_wp2_with fail
      obtain ⟨y,_,hB2⟩:=Box.puts (us:=[.int .i64 0,.string ⟨#[]⟩,.int .i64 0,.int .i64 (plS s m).1,.int .i64 (plS s m).2]) X6.out rfl;refine bodyPost_ret (results_ttc rfl rfl (run_loadVar_mid _ w.heap.size 0 34 _ _ y.range rfl rfl (by kernel_rfl))) rfl ?_;refine GOT.out _ _ ⟨none,0,0,?_,?_,B6.out.trans (hB2 _ (Nat.le_refl _)),fun q e=>by cases e⟩
      ·rw [←HR.out];rfl
      ·rw [←HR.out];exact Rd.none_ _ _ _ _
end tk
end Go.Proofs.YtdefgghhkknnpaaGreatDoor

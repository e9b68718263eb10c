/- Signs of a text, by the document's words, as functions of lists of bytes. No condition. A text's signs, written out again with gaps between them: they are read as they were. No condition but what each line says. Plain facts on whole numbers for layer q: what a sum, a difference, a product, a quotient, a rest, a floored quotient and a square root are, and when they have room. No condition. -/
import Derived.Test.YtdefgghhkknnpaaGreatDoorE01
import Derived.Lib.Bytes
import Derived.Lib.SlBytesConst
import Derived.Lib.Strings
import Derived.Laws.BitsAllLaws
import Derived.Shelf.Small.Bits
import Derived.Shelf.Bits.Mul64
import Derived.Test.YtdefgghhkknnpaaGreatDoorProg
import Derived.Shelf.Strings.Cut
import Derived.Shelf.Strings.Prefix
import Derived.Shelf.Strconv.Clone
import Derived.Shelf.Vars
set_option linter.unusedVariables false
set_option linter.unusedSimpArgs false
set_option maxRecDepth 100000
set_option maxHeartbeats 40000000
namespace Go.Proofs.YtdefgghhkknnpaaGreatDoor
namespace tk
open ChangeShapes WideShapes ChangeAt RowKit k rr
structure Tk where
 kind:Int
 text:List UInt8
 n:Int
 line:Nat
 col:Nat
def tC (t:Tk):List Value:=[.int .i64 t.kind,.string ⟨t.text.toArray⟩,.int .i64 t.n,.int .i64 t.line,.int .i64 t.col]
theorem tC_len (t:Tk):(tC t).length=5:=rfl
theorem tC_one (t:Tk):∀ u∈tC t,u.oneCell'=true:=by
 intro u hu;simp only [tC,List.mem_cons,List.not_mem_nil,or_false] at hu;rcases hu with rfl|rfl|rfl|rfl|rfl<;>rfl
def stepP (p:Nat×Nat) (b:UInt8):Nat×Nat:=if b=10 then (p.1+1,1) else (p.1,p.2+1)
def plc (l:List UInt8):Nat×Nat:=l.foldl stepP (1,1)
def plAt (s r:List UInt8):Nat×Nat:=plc (s.take (s.length-r.length))
def alphaB (c:UInt8):Bool:=(65≤c&&c≤90)||(97≤c&&c≤122)
def numB (c:UInt8):Bool:=48≤c&&c≤57
def bodyB (c:UInt8):Bool:=alphaB c||(numB c||c==95)
def bodyLen:List UInt8→Nat
 | []=>0
 | c::l=>if bodyB c=true then bodyLen l+1 else 0
def two:List UInt8→UInt8→UInt8→Bool
 | x::y::_,a,b=>x==a&&y==b
 | _,_,_=>false
def lineRest:List UInt8→List UInt8
 | []=>[]
 | c::l=>if c=10 then c::l else lineRest l
def endRest:List UInt8→Option (List UInt8)
 | []=>none
 | c::l=>if two (c::l) 42 41=true then some (l.drop 1) else endRest l
def pastF:Nat→List UInt8→Bool×List UInt8
 | 0,r=>(true,r)
 | f+1,[]=>(true,[])
 | f+1,c::l=>
  if c=32∨c=10∨c=9 then pastF f l
  else if two (c::l) 47 47=true then pastF f (lineRest l)
  else if two (c::l) 40 42=true then
   match endRest (l.drop 1) with
   | some r=>pastF f r
   | none=>(false,c::l)
  else (true,c::l)
def past (r:List UInt8):Bool×List UInt8:=pastF (r.length+1) r
def words:List (List UInt8):=[
  [80,82,79,71,82,65,77],
  [69,78,68,95,80,82,79,71,82,65,77],
  [86,65,82],
  [86,65,82,95,73,78,80,85,84],
  [86,65,82,95,79,85,84,80,85,84],
  [69,78,68,95,86,65,82],
  [73,78,84],
  [66,79,79,76],
  [65,82,82,65,89],
  [79,70],
  [84,82,85,69],
  [70,65,76,83,69],
  [73,70],
  [84,72,69,78],
  [69,76,83,73,70],
  [69,76,83,69],
  [69,78,68,95,73,70],
  [67,65,83,69],
  [69,78,68,95,67,65,83,69],
  [70,79,82],
  [84,79],
  [66,89],
  [68,79],
  [69,78,68,95,70,79,82],
  [87,72,73,76,69],
  [69,78,68,95,87,72,73,76,69],
  [82,69,80,69,65,84],
  [85,78,84,73,76],
  [69,78,68,95,82,69,80,69,65,84],
  [69,88,73,84],
  [82,69,84,85,82,78],
  [65,78,68],
  [79,82],
  [88,79,82],
  [78,79,84],
  [77,79,68]]
def isWord (l:List UInt8):Bool:=words.any fun w=>w==l
def dig (c:UInt8) (b:Nat):Option Nat:=
 let d:=if numB c=true then c.toNat-48 else if 65≤c∧c≤70 then c.toNat-55 else 99
 if d<b then some d else none
def digs (b:Nat):List UInt8→List Nat
 | []=>[]
 | c::l=>match dig c b with
  | some d=>d::digs b l
  | none=>[]
def val (b:Nat) (ds:List Nat):Nat:=ds.foldl (fun n d=>n*b+d) 0
def baseOf (r:List UInt8):Nat×Nat:=if two r 50 35=true then (2,2) else if two r 56 35=true then (8,2) else if (two r 49 54&&two (r.drop 1) 54 35)=true then (16,3) else (10,0)
def stuck:List UInt8→Bool
 | []=>false
 | c::_=>bodyB c||c==35
def number (r:List UInt8):Int×Nat×Nat:=
 let b:=baseOf r
 let ds:=digs b.1 (r.drop b.2)
 let e:=b.2+ds.length
 if ds.isEmpty||stuck (r.drop e) then (5,0,e) else if 9223372036854775807<val b.1 ds then (2,0,e) else (0,val b.1 ds,e)
def singles:List UInt8:=[43,45,42,47,40,41,91,93,46,44,59,58,60,62,61]
def signLen (r:List UInt8):Nat:=
 if (two r 58 61||(two r 60 61||(two r 62 61||(two r 60 62||two r 46 46))))=true then 2
 else match r with
  | c::_=>if singles.contains c=true then 1 else 0
  | []=>0
def sgn (r:List UInt8):Int×Int×Nat×Nat:=
 match r with
 | []=>(5,0,0,0)
 | c::l=>
  if alphaB c=true then
   let e:=bodyLen (c::l)
   if isWord (r.take e)=true then (0,2,0,e) else if 16<e then (9,0,0,0) else (0,1,0,e)
  else if numB c=true then
   let x:=number (c::l)
   if x.1=0 then (0,3,x.2.1,x.2.2) else (x.1,0,0,0)
  else
   let e:=signLen (c::l)
   if e=0 then (5,0,0,0) else (0,4,0,e)
def atP (p:Nat×Nat):Tk:=⟨0,[],0,p.1,p.2⟩
def zeroT:Tk:=⟨0,[],0,0,0⟩
def lexF (s:List UInt8):Nat→List UInt8→List Tk→Int×List Tk×Tk
 | 0,_,_=>(5,[],zeroT)
 | f+1,r,acc=>
  let p:=past r
  if p.1=false then (5,[],atP (plAt s p.2))
  else if p.2=[] then (0,acc++[atP (plAt s [])],zeroT)
  else
   let x:=sgn p.2
   if x.1=0 then lexF s f (p.2.drop x.2.2.2) (acc++[⟨x.2.1,p.2.take x.2.2.2,x.2.2.1,(plAt s p.2).1,(plAt s p.2).2⟩]) else (x.1,[],atP (plAt s p.2))
def lex (s:List UInt8):Int×List Tk×Tk:=if 16384<s.length then (13,[],atP (1,1)) else lexF s (s.length+1) s []
theorem numB_iff (c:UInt8):numB c=true↔48≤(c.toNat:Int)∧(c.toNat:Int)≤57:=by
 unfold numB;rw [Bool.and_eq_true,decide_eq_true_iff,decide_eq_true_iff,UInt8.le_iff_toNat_le,UInt8.le_iff_toNat_le];simp;omega
theorem alphaB_iff (c:UInt8):alphaB c=true↔(65≤(c.toNat:Int)∧(c.toNat:Int)≤90)∨(97≤(c.toNat:Int)∧(c.toNat:Int)≤122):=by
 unfold alphaB;rw [Bool.or_eq_true,Bool.and_eq_true,Bool.and_eq_true,decide_eq_true_iff,decide_eq_true_iff,decide_eq_true_iff,decide_eq_true_iff,UInt8.le_iff_toNat_le,UInt8.le_iff_toNat_le,UInt8.le_iff_toNat_le,UInt8.le_iff_toNat_le];simp;omega
theorem u8_eq (c:UInt8) (n:Nat) (hn:n<256):((c.toNat:Int)==(n:Int))=(c==UInt8.ofNat n):=by
 rw [Bool.eq_iff_iff,beq_iff_eq,beq_iff_eq];constructor
 ·intro h
  rw [←show c.toNat=n by omega];simp
 ·rintro rfl
  rw [UInt8.toNat_ofNat'];simp;omega
def dr (s:ByteArray) (n:Nat):List UInt8:=s.data.toList.drop n
theorem size_len (s:ByteArray):s.data.toList.length=s.size:=(Lib.size_eq s).symm
theorem dr_len (s:ByteArray) (n:Nat):(dr s n).length=s.size-n:=by unfold dr;rw [List.length_drop,size_len]
theorem dr_at {s:ByteArray} {n:Nat} (h:n<s.size):dr s n=s[n]::dr s (n+1):=by
 have h2:n<s.data.toList.length:=by rw [size_len];exact h
 unfold dr;rw [List.drop_eq_getElem_cons h2];rfl
theorem two_cons (x y:UInt8) (l:List UInt8) (a b:UInt8):two (x::y::l) a b=(x==a&&y==b):=rfl
theorem dr_end {s:ByteArray} {n:Nat} (h:s.size≤n):dr s n=[]:=List.eq_nil_of_length_eq_zero (by rw [dr_len];omega)
theorem dr_drop (s:ByteArray) (n m:Nat):(dr s n).drop m=dr s (n+m):=by unfold dr;rw [List.drop_drop]
theorem num_byte {c:UInt8} (h:numB c=true):48≤c.toNat∧c.toNat≤57:=by have:=(numB_iff c).1 h;omega
def digV (c:UInt8):Nat:=if numB c=true then c.toNat-48 else if 65≤c∧c≤70 then c.toNat-55 else 99
theorem foldl_le:∀ (l:List UInt8) (p:Nat×Nat),(l.foldl stepP p).1≤l.length+p.1∧(l.foldl stepP p).2≤l.length+max p.2 1∧p.1≤(l.foldl stepP p).1
 | [],p=>⟨by simp,by simp;omega,by simp⟩
 | c::l,p=>by
  have h:=foldl_le l (stepP p c);rw [List.foldl_cons,List.length_cons];unfold stepP at *;split at h<;>simp at h ⊢<;>rename_i hc<;>simp [hc] at h ⊢<;>omega
theorem plc_le (l:List UInt8):(plc l).1≤l.length+1∧(plc l).2≤l.length+1:=by
 have:=foldl_le l (1,1);unfold plc;simp at this;omega
theorem plc_take {s:ByteArray} {n:Nat} (h:n<s.size):plc (s.data.toList.take (n+1))=stepP (plc (s.data.toList.take n)) s[n]:=by
 unfold plc;have h2:n<s.data.toList.length:=by rw [size_len];exact h
 rw [List.take_succ_eq_append_getElem h2,List.foldl_append];rfl
def plS (s:ByteArray) (n:Nat):Nat×Nat:=plc (s.data.toList.take n)
theorem plS_le (s:ByteArray) (n:Nat):(plS s n).1≤n+1∧(plS s n).2≤n+1:=by
 have h:=plc_le (s.data.toList.take n);have h2:=List.length_take_le n s.data.toList;unfold plS;omega
theorem plS_at (s:ByteArray) {n:Nat} (h:n≤s.size):plAt s.data.toList (dr s n)=plS s n:=by
 unfold plAt plS;rw [dr_len,size_len,show s.size-(s.size-n)=n by omega]
theorem lineRest_suf:∀ (l:List UInt8),lineRest l <:+ l
 | []=>List.suffix_refl _
 | c::l=>by
  rw [lineRest];split
  ·exact List.suffix_refl _
  ·exact (lineRest_suf l).trans (List.suffix_cons c l)
theorem endRest_suf:∀ (l r:List UInt8),endRest l=some r→r <:+ l
 | [],r,h=>by cases h
 | c::l,r,h=>by
  rw [endRest] at h;split at h
  ·cases h
   exact (List.drop_suffix 1 l).trans (List.suffix_cons c l)
  ·exact (endRest_suf l r h).trans (List.suffix_cons c l)
theorem pastF_suf:∀ (f:Nat) (r:List UInt8),(pastF f r).2 <:+ r
 | 0,r=>List.suffix_refl _
 | f+1,[]=>List.suffix_refl _
 | f+1,c::l=>by
  rw [pastF];split
  ·exact (pastF_suf f l).trans (List.suffix_cons c l)
  ·split
   ·exact ((pastF_suf f _).trans (lineRest_suf l)).trans (List.suffix_cons c l)
   ·split
    ·split
     ·rename_i r h
      exact (((pastF_suf f r).trans (endRest_suf _ _ h)).trans (List.drop_suffix 1 l)).trans (List.suffix_cons c l)
     ·exact List.suffix_refl _
    ·exact List.suffix_refl _
def pastN (s:ByteArray) (n:Nat):Nat:=s.size-(past (dr s n)).2.length
theorem suf_dr {s:ByteArray} {n:Nat} {r:List UInt8} (h:r <:+ dr s n) (hn:n≤s.size):r=dr s (s.size-r.length)∧n≤s.size-r.length∧s.size-r.length≤s.size:=by
 have hl:=h.length_le;rw [dr_len] at hl;refine ⟨?_,by omega,by omega⟩;have h2:=List.suffix_iff_eq_drop.1 h;rw [dr_len,dr_drop,show n+(s.size-n-r.length)=s.size-r.length by omega] at h2;exact h2
theorem pastN_dr {s:ByteArray} {n:Nat} (hn:n≤s.size):(past (dr s n)).2=dr s (pastN s n)∧n≤pastN s n∧pastN s n≤s.size:=suf_dr (pastF_suf _ _) hn
theorem two_len {s:ByteArray} {n:Nat} {a b:UInt8} (h:two (dr s n) a b=true):n+1<s.size:=by
 have hl:=dr_len s n
 match dr s n,hl,h with
 | [],_,h=>cases h
 | [_],_,h=>cases h
 | _::_::l,hl,_=>simp at hl;omega
theorem eq8n (x:UInt8) (m:Nat) (hm:m<256):((x.toNat:Int)==(m:Int))=(x==UInt8.ofNat m):=u8_eq x m hm


theorem dig_eq (c:UInt8) (b:Nat):dig c b=if digV c<b then some (digV c) else none:=rfl
theorem digs_yes {c:UInt8} {b:Nat} (h:digV c<b) (l:List UInt8):digs b (c::l)=digV c::digs b l:=by rw [digs,dig_eq,if_pos h]
theorem digs_no {c:UInt8} {b:Nat} (h:¬ digV c<b) (l:List UInt8):digs b (c::l)=[]:=by rw [digs,dig_eq,if_neg h]
theorem val_snoc (b:Nat) (l:List Nat) (d:Nat):val b (l++[d])=val b l*b+d:=by unfold val;rw [List.foldl_append];rfl
theorem ov1 {v b d:Nat} (hb:1≤b) (h:9223372036854775807<v):9223372036854775807<v*b+d:=Nat.lt_of_lt_of_le h (Nat.le_trans (Nat.le_mul_of_pos_right v hb) (Nat.le_add_right _ _))
theorem ov2 {v b d:Nat} (hb:1≤b) (hd:d≤99) (h:(9223372036854775807-d) / b<v):9223372036854775807<v*b+d:=by
 have:=(Nat.div_lt_iff_lt_mul hb).1 h;omega
theorem ov3 {v b d:Nat} (hb:1≤b) (hd:d≤99) (h:¬ (9223372036854775807-d) / b<v):v*b+d≤9223372036854775807:=by
 have:=(Nat.le_div_iff_mul_le hb).1 (Nat.le_of_not_lt h);omega
structure Rd1 (b:Nat) (D:List Nat) (rest:List Nat) (q v:Nat) (so ov:Bool):Prop where
 le:q≤D.length
 drp:D.drop q=rest
 hso:so=decide (0<q)
 hov:ov=decide (9223372036854775807<val b (D.take q))
 hv:ov=false→v=val b (D.take q)
 mx:v≤9223372036854775807
theorem Rd1.take1 {b:Nat} {D rest:List Nat} {q v d:Nat} {so ov:Bool} (h:Rd1 b D (d::rest) q v so ov):q+1≤D.length∧D.drop (q+1)=rest∧val b (D.take (q+1))=val b (D.take q)*b+d:=by
 have h1:q<D.length:=by
  have:=congrArg List.length h.drp;rw [List.length_drop,List.length_cons] at this;omega
 have h2:=List.drop_eq_getElem_cons h1;rw [h.drp] at h2;injection h2 with h3 h4
 refine ⟨h1,h4.symm,?_⟩;rw [List.take_succ_eq_append_getElem h1,val_snoc,←h3]
theorem Rd1.over {b:Nat} {D rest:List Nat} {q v d:Nat} {so ov:Bool} (h:Rd1 b D (d::rest) q v so ov) (hb:1≤b) (hd:d≤99) (hv:(9223372036854775807-d) / b<v):Rd1 b D rest (q+1) v true true:=by
 obtain ⟨h1,h2,h3⟩:=h.take1;refine ⟨h1,h2,by simp,?_,(fun h=>by cases h),h.mx⟩;rw [h3];symm
 rw [decide_eq_true_iff];cases hov:ov
 ·rw [←h.hv hov]
  exact ov2 hb hd hv
 ·have:=h.hov
  rw [hov] at this;exact ov1 hb (of_decide_eq_true this.symm)
theorem Rd1.more {b:Nat} {D rest:List Nat} {q v d:Nat} {so ov:Bool} (h:Rd1 b D (d::rest) q v so ov) (hb:1≤b) (hd:d≤99) (hv:¬ (9223372036854775807-d) / b<v):Rd1 b D rest (q+1) (v*b+d) true ov:=by
 obtain ⟨h1,h2,h3⟩:=h.take1;refine ⟨h1,h2,by simp,?_,fun hov=>by rw [h3,←h.hv hov],ov3 hb hd hv⟩;rw [h3];cases hov:ov
 ·symm
  rw [decide_eq_false_iff_not,←h.hv hov];have:=ov3 hb hd hv;omega
 ·symm
  rw [decide_eq_true_iff];have:=h.hov;rw [hov] at this;exact ov1 hb (of_decide_eq_true this.symm)
theorem Rd1.end {b:Nat} {D:List Nat} {q v:Nat} {so ov:Bool} (h:Rd1 b D [] q v so ov):q=D.length∧so=!D.isEmpty∧ov=decide (9223372036854775807<val b D)∧(ov=false→v=val b D):=by
 have h1:q=D.length:=by
  have h2:=h.drp;rw [List.drop_eq_nil_iff] at h2;have:=h.le;omega
 have h3:D.take q=D:=by rw [h1,List.take_length]
 refine ⟨h1,?_,by rw [h.hov,h3],fun hov=>by rw [h.hv hov,h3]⟩;rw [h.hso,h1];cases D<;>simp
theorem results_ttc {P:Program} {fn:Func} {t u c:Tmp} {T:TypeId} (h:fn.results=#[.tmp t,.tmp u,.cell c T]) {tmps:Array Value} {w:World} {b o:Nat} {v:Value} (ht:tmps.getD c undef=.pointer (some ⟨b,o,none⟩))
  (hl:(loadVar T ⟨b,o,none⟩).run P w=.ok v w):(results fn tmps).run P w=.ok (.tuple #[tmps.getD t undef,tmps.getD u undef,v]) w:=by
 have ha:(asAddr (.pointer (some ⟨b,o,none⟩)):Sem Addr)=pure ⟨b,o,none⟩:=rfl;have ht2:tmps[c]?.getD undef=.pointer (some ⟨b,o,none⟩):=by rw [←ht];simp
 rw [results,h];simp [ht2,ha,hl]
theorem tok_info:(Tryz.prog.info? 34).map (fun i=>(i.zero,i.size,i.bytes))=some (some (.agg #[.int .i64 0,.string ⟨#[]⟩,.int .i64 0,.int .i64 0,.int .i64 0]),5,48):=by kernel_rfl
theorem toks_slice:Tryz.prog.underlying 65=some (.slice 34):=by kernel_rfl
def GotL (s:ByteArray) (w:World) (e:Ending) (w':World):Prop:=
 ∃ A n c,e=.returned (.tuple #[.slice A n c,.int .i64 (lex s.data.toList).1,.agg (tC (lex s.data.toList).2.2).toArray])∧rr.Rd tC 5 w' w'.heap.size A n c (lex s.data.toList).2.1∧Below w.heap.size w w'
section
variable {s r:List UInt8} {f:Nat} {acc:List Tk}
theorem lexF_bad (h:(past r).1=false):lexF s (f+1) r acc=(5,[],atP (plAt s (past r).2)):=by rw [lexF];simp only [h,if_true]
theorem lexF_end (h:(past r).1=true) (h2:(past r).2=[]):lexF s (f+1) r acc=(0,acc++[atP (plAt s [])],zeroT):=by
 rw [lexF];simp only [h,h2,if_true,Bool.true_eq_false,if_false]
theorem lexF_err (h:(past r).1=true) (h2:(past r).2≠[]) (h3:(sgn (past r).2).1≠0):lexF s (f+1) r acc=((sgn (past r).2).1,[],atP (plAt s (past r).2)):=by
 rw [lexF];simp only [h,h2,h3,Bool.true_eq_false,if_false]
theorem lexF_tok (h:(past r).1=true) (h2:(past r).2≠[]) (h3:(sgn (past r).2).1=0):lexF s (f+1) r acc=lexF s f ((past r).2.drop (sgn (past r).2).2.2.2) (acc++[⟨(sgn (past r).2).2.1,(past r).2.take (sgn (past r).2).2.2.2,(sgn (past r).2).2.2.1,(plAt s (past r).2).1,(plAt s (past r).2).2⟩]):=by
 rw [lexF];simp only [h,h2,h3,if_true,Bool.true_eq_false,if_false]
end
theorem extract_dr (s:ByteArray) (a b:Nat):s.extract a b=⟨((dr s a).take (b-a)).toArray⟩:=by
 apply ByteArray.ext
 apply Array.toList_inj.1
 rw [Lib.extract_data];rfl
theorem bodyLen_le:∀ (l:List UInt8),bodyLen l≤l.length
 | []=>Nat.le_refl _
 | c::l=>by
  have:=bodyLen_le l;rw [bodyLen,List.length_cons];split<;>omega
theorem form_above {α:Type} {enc:α→List Value} {z:Nat} (hlz:∀ x,(enc x).length=z) {t:TypeId} {w W:World} {base:Nat} {v:Value} {L:List α} (h:rr.Ow enc z t w base v L) (ha:Above base w W) (hs:W.heap.size=w.heap.size) :
  ∃ A cap,v=.slice A L.length cap∧rr.Rd enc z W W.heap.size A L.length cap L:=by
 have h0:=h;rcases h0.2 with ⟨rfl,h1⟩|⟨g,cap,cur,rfl,hbg,hg,hnc,hcm,_,_⟩
 ·have hL:L=[]:=List.eq_nil_of_length_eq_zero h1
  subst hL;exact ⟨none,0,rfl,Rd.none_ _ _ _ _⟩
 ·refine ⟨_,cap,rfl,rfl,hnc,hcm,(fun h=>by cases h),fun hp=>⟨g,0,rfl,?_,fun i x hx j u hu=>?_⟩⟩
  ·rw [hs]
   exact (Array.getElem?_eq_some_iff.1 hg).1
  ·have hj:j<z:=by rw [←hlz x];exact (List.getElem?_eq_some_iff.1 hu).1
   have hc:=World.ownsRow.cells (g:=g) h rfl (i*z+j) u (by rw [flat_at enc z hlz L i j x hx hj,hu]);have e:(Addr.add ⟨g,0,none⟩ (i*z+j))=⟨g,0+i*z+j,none⟩:=by unfold Addr.add;by_cases h:i*z+j=0<;>simp [h];omega
   rw [e] at hc;rw [ha g _ hbg];exact hc
theorem box_drew {w:World} {g:Nat}:∀ {vs:List Value} {o:Nat},Box w g o vs→Box w.drew g o vs
 | [],_,_=>trivial
 | v::vs,o,h=>⟨h.1,h.2.1,box_drew h.2.2⟩
section
variable {x:UInt8} {l:List UInt8}
theorem sgn_num {v n:Nat} (h1:alphaB x=false) (h2:numB x=true) (h3:number (x::l)=(0,v,n)):sgn (x::l)=(0,3,v,n):=by
 unfold sgn;simp only [h1,h2,h3,Bool.false_eq_true,if_true,if_false]
theorem sgn_nume {e:Int} {v n:Nat} (h1:alphaB x=false) (h2:numB x=true) (h3:number (x::l)=(e,v,n)) (h4:e≠0):sgn (x::l)=(e,0,0,0):=by
 unfold sgn;simp only [h1,h2,h3,h4,Bool.false_eq_true,if_true,if_false]
theorem sgn_sign (h1:alphaB x=false) (h2:numB x=false) (h3:signLen (x::l)≠0):sgn (x::l)=(0,4,0,signLen (x::l)):=by
 unfold sgn;simp only [h1,h2,h3,Bool.false_eq_true,if_false]
theorem sgn_none (h1:alphaB x=false) (h2:numB x=false) (h3:signLen (x::l)=0):sgn (x::l)=(5,0,0,0):=by
 unfold sgn;simp only [h1,h2,h3,Bool.false_eq_true,if_true,if_false]
theorem sgn_word (h1:alphaB x=true) (h2:isWord ((x::l).take (bodyLen (x::l)))=true):sgn (x::l)=(0,2,0,bodyLen (x::l)):=by
 unfold sgn;simp only [h1,h2,if_true]
theorem sgn_long (h1:alphaB x=true) (h2:isWord ((x::l).take (bodyLen (x::l)))=false) (h3:16<bodyLen (x::l)):sgn (x::l)=(9,0,0,0):=by
 unfold sgn;simp only [h1,h2,h3,Bool.false_eq_true,if_true,if_false]
theorem sgn_name (h1:alphaB x=true) (h2:isWord ((x::l).take (bodyLen (x::l)))=false) (h3:¬ 16<bodyLen (x::l)):sgn (x::l)=(0,1,0,bodyLen (x::l)):=by
 unfold sgn;simp only [h1,h2,h3,Bool.false_eq_true,if_true,if_false]
end
theorem signLen_le (r:List UInt8):signLen r≤r.length∧signLen r≤2:=by
 unfold signLen
 match r with
 | []=>simp [two]
 | [a]=>simp only [two,Bool.or_self,Bool.false_eq_true,if_false];split<;>simp
 | a::b::l=>split<;>(try split)<;>(try split)<;>simp
theorem digs_len (b:Nat):∀ (l:List UInt8),(digs b l).length≤l.length
 | []=>Nat.le_refl _
 | c::l=>by
  have:=digs_len b l;rw [digs];split<;>simp<;>omega
theorem base_len (r:List UInt8):(baseOf r).2≤r.length:=by
 unfold baseOf;split
 ·rename_i h
  match r,h with
  | _::_::l,_=>simp
 ·split
  ·rename_i h
   match r,h with
   | _::_::l,_=>simp
  ·split
   ·rename_i h
    match r,h with
    | _::_::_::l,_=>simp
    | [_,_],h=>simp [two] at h
    | [_],h=>simp [two] at h
    | [],h=>simp [two] at h
   ·exact Nat.zero_le _
theorem number_len {r:List UInt8} {e:Int} {v n:Nat} (h:number r=(e,v,n)):n≤r.length∧(e=0→1≤n):=by
 unfold number at h;have h1:=digs_len (baseOf r).1 (r.drop (baseOf r).2);have h2:=base_len r;rw [List.length_drop] at h1;simp only at h;split at h
 ·cases h
  exact ⟨by omega,fun h=>by cases h⟩
 ·rename_i h3
  have h4:digs (baseOf r).1 (r.drop (baseOf r).2)≠[]:=by
   intro e;rw [e] at h3;simp at h3
  have h5:1≤(digs (baseOf r).1 (r.drop (baseOf r).2)).length:=by
   rcases Nat.eq_zero_or_pos (digs (baseOf r).1 (r.drop (baseOf r).2)).length with h|h
   ·exact absurd (List.eq_nil_of_length_eq_zero h) h4
   ·exact h
  split at h<;>cases h<;>exact ⟨by omega,fun _=>by omega⟩
theorem alpha_body {c:UInt8} (h:alphaB c=true):bodyB c=true:=by unfold bodyB;rw [h];rfl
def Placed (s:List UInt8):Nat→List Tk→Prop
 | _,[]=>False
 | o,t::l=>∃ p,o≤p∧p≤s.length∧(t.line,t.col)=plc (s.take p)∧(s.drop p).take t.text.length=t.text∧p+t.text.length≤s.length∧((l=[]∧t.kind=0∧p=s.length)∨Placed s (p+1) l)
theorem Placed.mono {s:List UInt8} {o o':Nat}:∀ {M:List Tk},Placed s o M→o'≤o→Placed s o' M
 | [],h,_=>h
 | t::l,⟨p,h1,h2⟩,h=>⟨p,by omega,h2⟩
theorem sgn_len {r:List UInt8} {k:Int} {v n:Nat} (h:sgn r=(0,k,v,n)):1≤n∧n≤r.length:=by
 match r,h with
 | [],h=>simp [sgn] at h
 | c::l,h=>
  unfold sgn at h;simp only at h;split at h
  ·rename_i hal
   have h1:=bodyLen_le (c::l);have h2:1≤bodyLen (c::l):=by rw [bodyLen,if_pos (alpha_body hal)];omega
   split at h
   ·cases h;exact ⟨h2,h1⟩
   ·split at h
    ·cases h
    ·cases h;exact ⟨h2,h1⟩
  ·split at h
   ·obtain ⟨⟨e,v',n'⟩,hx⟩:∃ q,number (c::l)=q:=⟨_,rfl⟩
    rw [hx] at h;have h1:=number_len hx;simp only at h;split at h
    ·rename_i he
     cases h
     exact ⟨h1.2 he,h1.1⟩
    ·rename_i he
     cases h
     exact absurd rfl he
   ·have h1:=signLen_le (c::l)
    split at h
    ·cases h
    ·cases h;exact ⟨by omega,h1.1⟩
theorem past_suf (r:List UInt8):(past r).2 <:+ r:=pastF_suf _ _
theorem Placed.last {s:List UInt8}:∀ {M:List Tk} {o:Nat},Placed s o M→∃ t,M[M.length-1]?=some t∧t.kind=0
 | [],o,h=>h.elim
 | [t],o,⟨p,_,_,_,_,_,h⟩=>⟨t,rfl,h.elim (fun h=>h.2.1) (fun h=>h.elim)⟩
 | t::u::l,o,⟨p,_,_,_,_,_,h⟩=>by
  rcases h with ⟨h,_⟩|h
  ·cases h
  ·obtain ⟨t',h1,h2⟩:=h.last
   exact ⟨t',by simpa using h1,h2⟩
theorem pastF_fuel:∀ (f g:Nat) (r:List UInt8),r.length<f→r.length<g→pastF f r=pastF g r
 | 0,_,_,h,_=>by omega
 | _+1,0,_,_,h=>by omega
 | f+1,g+1,[],_,_=>rfl
 | f+1,g+1,c::l,hf,hg=>by
  rw [List.length_cons] at hf hg;have h1:=(lineRest_suf l).length_le;rw [pastF,pastF];split
  ·exact pastF_fuel f g l (by omega) (by omega)
  ·split
   ·exact pastF_fuel f g _ (by omega) (by omega)
   ·split
    ·split
     ·rename_i r hr
      have h2:=(endRest_suf _ _ hr).length_le;rw [List.length_drop] at h2;exact pastF_fuel f g r (by omega) (by omega)
     ·rfl
    ·rfl
theorem past_f {f:Nat} {r:List UInt8} (h:r.length<f):pastF f r=past r:=pastF_fuel _ _ _ h (Nat.lt_succ_self _)
theorem past_blank {c:UInt8} (h:c=32∨c=10∨c=9) (l:List UInt8):past (c::l)=past l:=by
 unfold past;rw [List.length_cons,pastF,if_pos h]
theorem past_line (l:List UInt8):past (47::47::l)=past (lineRest (47::l)):=by
 have h1:=(lineRest_suf (47::l)).length_le;rw [List.length_cons] at h1;rw [←past_f (f:=l.length+1+1) (r:=lineRest (47::l)) (by omega)];rfl
theorem past_rem (l r:List UInt8) (h:endRest l=some r):past (40::42::l)=past r:=by
 have h1:=(endRest_suf _ _ h).length_le;rw [←past_f (f:=l.length+1+1) (r:=r) (by omega)]
 show (match endRest l with|some r=>pastF (l.length+1+1) r|none=>(false,40::42::l))=_
 rw [h]
def gaps:List (List UInt8):=[[32],[10],[9],[32,47,47,32,120,10],[40,42,32,42,32,42,41],[40,42,42,41,32],[10,10],[40,42,47,47,42,41]]
theorem past_gap {g:List UInt8} (h:g∈gaps) (l:List UInt8):past (g++l)=past l:=by
 simp only [gaps,List.mem_cons,List.not_mem_nil,or_false] at h;rcases h with rfl|rfl|rfl|rfl|rfl|rfl|rfl|rfl
 ·exact past_blank (.inl rfl) l
 ·exact past_blank (.inr (.inl rfl)) l
 ·exact past_blank (.inr (.inr rfl)) l
 ·rw [show [32,47,47,32,120,10]++l=32::47::47::32::120::10::l from rfl,past_blank (.inl rfl),past_line]
  rw [show lineRest (47::32::120::10::l)=10::l from rfl,past_blank (.inr (.inl rfl))]
 ·exact past_rem (32::42::32::42::41::l) l rfl
 ·rw [show [40,42,42,41,32]++l=40::42::42::41::32::l from rfl,past_rem (42::41::32::l) (32::l) rfl,past_blank (.inl rfl)]
 ·rw [show [10,10]++l=10::10::l from rfl,past_blank (.inr (.inl rfl)),past_blank (.inr (.inl rfl))]
 ·exact past_rem (47::47::42::41::l) l rfl
def GapStart (l:List UInt8):Prop:=l=[]∨∃ c r,l=c::r∧(c=32∨c=10∨c=9∨c=40)
def NoGap (r:List UInt8):Prop:=∃ c l,r=c::l∧¬ (c=32∨c=10∨c=9)∧two r 47 47=false∧two r 40 42=false
theorem NoGap.past {r:List UInt8} (h:NoGap r):past r=(true,r):=by
 obtain ⟨c,l,rfl,h1,h2,h3⟩:=h;unfold tk.past;rw [List.length_cons,pastF,if_neg h1,h2,h3];simp
theorem base_16 (r:List UInt8):(baseOf r).1≤16∧(baseOf r).2≤3:=by
 unfold baseOf;split
 ·exact ⟨by simp,by simp⟩
 ·split
  ·exact ⟨by simp,by simp⟩
  ·split<;>exact ⟨by simp,by simp⟩

def TokOk (t:Tk):Prop:=1≤t.text.length∧∃ v:Nat,t.n=v∧∀ rest,GapStart rest→past (t.text++rest)=(true,t.text++rest)∧sgn (t.text++rest)=(0,t.kind,v,t.text.length)
def Good:List Tk→Prop
 | []=>False
 | [t]=>t.kind=0∧t.text=[]∧t.n=0
 | t::u::l=>TokOk t∧Good (u::l)
theorem Good.cons {t:Tk} {M:List Tk} (h:TokOk t) (hM:Good M):Good (t::M):=by
 cases M with
 | nil=>exact hM.elim
 | cons u l=>exact ⟨h,hM⟩
end tk
namespace q
open RowKit
def rm (z:Int):Bool:=decide (-9223372036854775808≤z∧z≤9223372036854775807)
def rv (z:Int):Int:=if rm z=true then z else 0
def addV (a b:Int):Int:=rv (a+b)
def addB (a b:Int):Bool:=rm (a+b)
def mulV (a b:Int):Int:=rv (a*b)
def mulB (a b:Int):Bool:=rm (a*b)
theorem rm_iff {z:Int}:rm z=true↔(-9223372036854775808≤z∧z≤9223372036854775807):=by simp [rm]
theorem rv_yes {z:Int} (h:rm z=true):rv z=z:=by simp [rv,h]
theorem rv_no {z:Int} (h:¬ rm z=true):rv z=0:=by simp [rv,h]
theorem i64_of_bv (v:BitVec 64):(IntKind.i64.wrap (v.toNat:Int)<0)↔v.msb=true:=by
 rw [IntKind.wrap_i64,BitVec.msb_eq_decide];have:=v.isLt;simp only [decide_eq_true_eq];omega
theorem i64_rng (n:Int):-9223372036854775808≤IntKind.i64.wrap n∧IntKind.i64.wrap n≤9223372036854775807:=by
 rw [IntKind.wrap_i64];omega
theorem msb_of (x:Int) (h1:-9223372036854775808≤x) (h2:x≤9223372036854775807):(BitVec.ofInt 64 x).msb=true↔x<0:=by
 rw [BitVec.msb_eq_toInt,BitVec.toInt_ofInt,decide_eq_true_eq,Int.bmod_def];omega
theorem xor_neg (x y:Int) (h1:-9223372036854775808≤x) (h2:x≤9223372036854775807) (h3:-9223372036854775808≤y) (h4:y≤9223372036854775807) :
  bits .xor .i64 x y<0↔¬ (x<0↔y<0):=by
 show IntKind.i64.wrap ((BitVec.ofInt 64 x ^^^ BitVec.ofInt 64 y).toNat:Int)<0↔_
 rw [i64_of_bv,BitVec.msb_xor];have a:=msb_of x h1 h2;have b:=msb_of y h3 h4;rw [←a,←b];cases (BitVec.ofInt 64 x).msb<;>cases (BitVec.ofInt 64 y).msb<;>simp
theorem and_neg (x y:Int) (h1:-9223372036854775808≤x) (h2:x≤9223372036854775807) (h3:-9223372036854775808≤y) (h4:y≤9223372036854775807) :
  bits .and .i64 x y<0↔(x<0∧y<0):=by
 show IntKind.i64.wrap ((BitVec.ofInt 64 x &&& BitVec.ofInt 64 y).toNat:Int)<0↔_
 rw [i64_of_bv,BitVec.msb_and];have a:=msb_of x h1 h2;have b:=msb_of y h3 h4;rw [←a,←b];cases (BitVec.ofInt 64 x).msb<;>cases (BitVec.ofInt 64 y).msb<;>simp
theorem xor_rng (x y:Int):-9223372036854775808≤bits .xor .i64 x y∧bits .xor .i64 x y≤9223372036854775807:=i64_rng _
theorem wrap64_rng (n:Int):-9223372036854775808≤wrap64 n∧wrap64 n≤9223372036854775807:=by unfold wrap64;omega
theorem add_test (a b:Int) (h1:-9223372036854775808≤a) (h2:a≤9223372036854775807) (h3:-9223372036854775808≤b) (h4:b≤9223372036854775807) :
  bits .and .i64 (bits .xor .i64 a (wrap64 (a+b))) (bits .xor .i64 b (wrap64 (a+b)))<0↔¬ rm (a+b)=true:=by
 have r:=wrap64_rng (a+b);have x:=xor_rng a (wrap64 (a+b));have y:=xor_rng b (wrap64 (a+b));rw [and_neg _ _ x.1 x.2 y.1 y.2,xor_neg _ _ h1 h2 r.1 r.2,xor_neg _ _ h3 h4 r.1 r.2,rm_iff];unfold wrap64;omega
theorem wrap_add (z:Int) (h:rm z=true):wrap64 z=z:=by
 rw [rm_iff] at h;unfold wrap64;omega
def mag (a:Int):Nat:=a.natAbs
theorem mag_le (a:Int) (h1:-9223372036854775808≤a) (h2:a≤9223372036854775807):mag a≤9223372036854775808:=by unfold mag;omega
theorem mag_neg (a:Int) (h1:-9223372036854775808≤a) (h:a<0):IntKind.u64.wrap (-IntKind.u64.wrap a)=(mag a:Nat):=by
 unfold mag;rw [IntKind.wrap_u64,IntKind.wrap_u64];omega
def neq (a b:Int):Bool:=!decide (a<0)==decide (b<0)
def sgn (m:Nat) (neg:Bool):Int:=if neg=true then -(m:Int) else (m:Int)
theorem sgn_mul (a b:Int):sgn (mag a*mag b) (neq a b)=a*b:=by
 unfold sgn mag neq;rw [←Int.natAbs_mul];by_cases ha:a<0<;>by_cases hb:b<0<;>simp [ha,hb]
 ·have:=Int.mul_nonneg_of_nonpos_of_nonpos (Int.le_of_lt ha) (Int.le_of_lt hb);omega
 ·have:=Int.mul_nonpos_of_nonpos_of_nonneg (Int.le_of_lt ha) (Int.not_lt.mp hb);omega
 ·have:=Int.mul_nonpos_of_nonneg_of_nonpos (Int.not_lt.mp ha) (Int.le_of_lt hb);omega
 ·have:=Int.mul_nonneg (Int.not_lt.mp ha) (Int.not_lt.mp hb);omega
theorem abs_mul (a b:Int):(a*b).natAbs=mag a*mag b:=by unfold mag;rw [Int.natAbs_mul]
theorem mul_over (a b:Int) (h:18446744073709551616≤mag a*mag b):¬ rm (a*b)=true:=by
 rw [rm_iff];have:=abs_mul a b;omega
end q
namespace q
open Shelf RowKit Lib
def renMul:Go.Shelf.Ren:=⟨fun|264=>173|n=>n,fun|53=>88|46=>197|n=>n,fun|n=>n⟩
theorem laysMul:Go.Proofs.Lays.n264 Tryz.prog renMul:={
 mixed:=by kernel_rfl
 f264:=Tryz.func173.trans (congrArg some (by kernel_rfl))
 t46:=Tryz.underlying197
 a46:=Tryz.isAgg197
 z46:=Tryz.sizeOf197
 v46:=Tryz.zeroValue197
 t53:=Tryz.underlying88
 a53:=Tryz.isAgg88
 z53:=Tryz.sizeOf88
 v53:=Tryz.zeroValue88}
theorem mul64_any (x y:Nat) (hx:x<18446744073709551616) (hy:y<18446744073709551616) (w:World) :
  Calls Tryz.prog 173 #[.int .u64 (x:Int),.int .u64 (y:Int)] w fun e w'=>e=.returned (.tuple #[.int .u64 ((x*y / 18446744073709551616:Nat):Int),.int .u64 ((x*y % 18446744073709551616:Nat):Int)])∧w=w':=
 Calls.mono (Any.bits_Mul64 laysMul x y hx hy w) fun _ _ h=>⟨h.1,h.2.symm⟩
end q
namespace q
open ChangeShapes WideShapes ChangeAt RowKit
theorem ret2_bool {k:IntKind} {a b:Int} {c d:Bool} (h:a=b) (h':c=d):Ending.returned (.tuple #[.int k a,.bool c])=.returned (.tuple #[.int k b,.bool d]):=by rw [h,h']
theorem ret_int {k:IntKind} {a b:Int} (h:a=b):Ending.returned (.int k a)=.returned (.int k b):=by rw [h]
theorem add_any (a b:Int) (h1:-9223372036854775808≤a) (h2:a≤9223372036854775807) (h3:-9223372036854775808≤b) (h4:b≤9223372036854775807) (w:World) :
  Calls Tryz.prog 154 #[.int .i64 a,.int .i64 b] w fun e w'=>e=.returned (.tuple #[.int .i64 (addV a b),.bool (addB a b)])∧w=w':=by
 have T:=add_test a b h1 h2 h3 h4;by_cases hr:rm (a+b)=true
 ·have hn:¬ bits .and .i64 (bits .xor .i64 a (wrap64 (a+b))) (bits .xor .i64 b (wrap64 (a+b)))<0:=by rw [T];simpa using hr
  have hv:Hid (addV a b=wrap64 (a+b)∧addB a b=true):=Lib.hid ⟨by rw [wrap_add _ hr];exact rv_yes hr,hr⟩;clear T hr;go_enter Tryz.func154,Tryz.ntmps154
  go_wp2;go_ret2
  exact ⟨ret2_bool hv.out.1.symm hv.out.2.symm,rfl⟩
 ·have hn:bits .and .i64 (bits .xor .i64 a (wrap64 (a+b))) (bits .xor .i64 b (wrap64 (a+b)))<0:=by rw [T];exact hr
  have hv:Hid (addV a b=0∧addB a b=false):=Lib.hid ⟨rv_no hr,Bool.eq_false_iff.mpr hr⟩;clear T hr;go_enter Tryz.func154,Tryz.ntmps154
  go_wp2;go_ret2
  exact ⟨ret2_bool hv.out.1.symm hv.out.2.symm,rfl⟩
theorem size_any (a:Int) (h1:-9223372036854775808≤a) (h2:a≤9223372036854775807) (w:World) :
  Calls Tryz.prog 174 #[.int .i64 a] w fun e w'=>e=.returned (.int .u64 ((mag a:Nat):Int))∧w=w':=by
 by_cases hn:a<0
 ·have hv:=Lib.hid (mag_neg a h1 hn)
  go_enter Tryz.func174,Tryz.ntmps174
  go_wp2;go_ret
  exact ⟨ret_int hv.out,rfl⟩
 ·go_enter Tryz.func174,Tryz.ntmps174
  go_wp2;go_ret
  exact ⟨ret_int (by unfold mag;omega),rfl⟩
theorem unlike_any (a b:Int) (w:World) :
  Calls Tryz.prog 176 #[.int .i64 a,.int .i64 b] w fun e w'=>e=.returned (.bool (neq a b))∧w=w':=by
 go_enter Tryz.func176,Tryz.ntmps176
 go_wp2;go_ret
 exact ⟨rfl,rfl⟩
def sgV (n:Nat) (b:Bool):Int:=rv (sgn n b)
def sgB (n:Nat) (b:Bool):Bool:=rm (sgn n b)
theorem signed_any (n:Nat) (b:Bool) (hn:n<18446744073709551616) (w:World) :
  Calls Tryz.prog 175 #[.int .u64 (n:Int),.bool b] w fun e w'=>e=.returned (.tuple #[.int .i64 (sgV n b),.bool (sgB n b)])∧w=w':=by
 cases b
 ·by_cases hr:(n:Int)≤9223372036854775807
  ·have hv:Hid (sgV n false=(n:Int)∧sgB n false=true):=Lib.hid (by
    have:rm (n:Int)=true:=by rw [rm_iff];omega
    exact ⟨rv_yes this,this⟩)
   go_enter Tryz.func175,Tryz.ntmps175
   go_wp2;go_ret2
   exact ⟨ret2_bool hv.out.1.symm hv.out.2.symm,rfl⟩
  ·have hv:Hid (sgV n false=0∧sgB n false=false):=Lib.hid (by
    have:¬ rm (n:Int)=true:=by rw [rm_iff];omega
    exact ⟨rv_no this,Bool.eq_false_iff.mpr this⟩)
   go_enter Tryz.func175,Tryz.ntmps175
   go_wp2;go_ret2
   exact ⟨ret2_bool hv.out.1.symm hv.out.2.symm,rfl⟩
 ·by_cases hr:(n:Int)≤9223372036854775808
  ·have hv:Hid (sgV n true=wrap64 (IntKind.u64.wrap (-n))∧sgB n true=true):=Lib.hid (by
    have:rm (-(n:Int))=true:=by rw [rm_iff];omega
    refine ⟨?_,this⟩
    show rv (-(n:Int))=_
    rw [rv_yes this,IntKind.wrap_u64];unfold wrap64;omega)
   go_enter Tryz.func175,Tryz.ntmps175
   go_wp2;go_ret2
   exact ⟨ret2_bool hv.out.1.symm hv.out.2.symm,rfl⟩
  ·have hv:Hid (sgV n true=0∧sgB n true=false):=Lib.hid (by
    have:¬ rm (-(n:Int))=true:=by rw [rm_iff];omega
    exact ⟨rv_no this,Bool.eq_false_iff.mpr this⟩)
   go_enter Tryz.func175,Tryz.ntmps175
   go_wp2;go_ret2
   exact ⟨ret2_bool hv.out.1.symm hv.out.2.symm,rfl⟩
theorem mul_any (a b:Int) (h1:-9223372036854775808≤a) (h2:a≤9223372036854775807) (h3:-9223372036854775808≤b) (h4:b≤9223372036854775807) (w:World) :
  Calls Tryz.prog 153 #[.int .i64 a,.int .i64 b] w fun e w'=>e=.returned (.tuple #[.int .i64 (mulV a b),.bool (mulB a b)])∧w=w':=by
 have ma:=mag_le a h1 h2;have mb:=mag_le b h3 h4;have HS:=Lib.hid (sgn_mul a b);have HO:=Lib.hid (mul_over a b);by_cases hh:mag a*mag b / 18446744073709551616=0
 ·have hlt:mag a*mag b<18446744073709551616:=by omega
  have hmod:mag a*mag b % 18446744073709551616=mag a*mag b:=Nat.mod_eq_of_lt hlt;have hv:Hid (mulV a b=sgV (mag a*mag b) (neq a b)∧mulB a b=sgB (mag a*mag b) (neq a b)):=Lib.hid (by
   unfold mulV mulB sgV sgB;rw [HS.out];exact ⟨rfl,rfl⟩)
  have cs:=fun (w:World)=>signed_any (mag a*mag b % 18446744073709551616) (neq a b) (by omega) w
  rw [hmod] at cs;have cm:=fun (w:World)=>mul64_any (mag a) (mag b) (by omega) (by omega) w
  rw [hh,hmod] at cm;generalize mag a*mag b=P at *;clear hh hmod;go_enter Tryz.func153,Tryz.ntmps153
  go_wp2_with (first|(go_at_call 174;with_reducible refine (size_any _ (by assumption) (by assumption) _).mono ?_;rintro e w' ⟨rfl,rfl⟩)|(go_at_call 173;with_reducible refine (cm _).mono ?_;rintro e w' ⟨rfl,rfl⟩)|(go_at_call 176;with_reducible refine (unlike_any _ _ _).mono ?_;rintro e w' ⟨rfl,rfl⟩)|(go_at_call 175;with_reducible refine (cs _).mono ?_;rintro e w' ⟨rfl,rfl⟩))
  go_ret2
  exact ⟨ret2_bool hv.out.1.symm hv.out.2.symm,rfl⟩
 ·have hv:Hid (mulV a b=0∧mulB a b=false):=Lib.hid (by
   have:=HO.out (by omega);exact ⟨rv_no this,Bool.eq_false_iff.mpr this⟩)
  have cm:=fun (w:World)=>mul64_any (mag a) (mag b) (by omega) (by omega) w
  generalize mag a*mag b / 18446744073709551616=hi at *;generalize mag a*mag b % 18446744073709551616=lo at *;have hi0:(0:Int)<hi:=by omega
  clear hh HS HO;go_enter Tryz.func153,Tryz.ntmps153
  go_wp2_with (first|(go_at_call 174;with_reducible refine (size_any _ (by assumption) (by assumption) _).mono ?_;rintro e w' ⟨rfl,rfl⟩)|(go_at_call 173;with_reducible refine (cm _).mono ?_;rintro e w' ⟨rfl,rfl⟩))
  go_ret2
  exact ⟨ret2_bool hv.out.1.symm hv.out.2.symm,rfl⟩
end q
namespace tk
open Shelf RowKit Lib
def MaxL (W:World):Prop:=∃ m,W.cell? ⟨1,0,none⟩=some (.int .i64 m)
theorem maxl_of {W:World} (h:W.ShapedOpen Tryz.prog):MaxL W:=
 cell_of_shapedOpen_int h (zero:=#[.int .i64 0]) (t:=3) (of_decide_eq_true (by kernel_rfl)) (by kernel_rfl) (by kernel_rfl) (by kernel_rfl) (by kernel_rfl) Tryz.underlying3
theorem MaxL.lt {w:World} (h:MaxL w):1<w.heap.size:=by
 obtain ⟨m,hm⟩:=h;rcases Nat.lt_or_ge 1 w.heap.size with h'|h'
 ·exact h'
 ·unfold World.cell? at hm
  rw [Array.getElem?_eq_none h'] at hm;simp at hm
theorem MaxL.below {w w':World} (h:MaxL w) (hb:Below w.heap.size w w'):MaxL w':=by
 have hlt:=h.lt;obtain ⟨m,hm⟩:=h;exact ⟨m,(hb.cell (p:=⟨1,0,none⟩) hlt).trans hm⟩
theorem MaxL.under {w w':World} {base:Nat} (h:MaxL w) (h2:1<base) (hb:Below base w w'):MaxL w':=by
 obtain ⟨m,hm⟩:=h;exact ⟨m,(hb.cell (p:=⟨1,0,none⟩) h2).trans hm⟩
def renS:Go.Shelf.Ren:=⟨fun|99=>105|206=>130|145=>106|217=>169|219=>152|220=>131|224=>171|225=>170|266=>182|267=>172|314=>183|316=>155|n=>n,fun|0=>0|3=>3|4=>4|5=>5|9=>9|46=>197|51=>194|59=>152|146=>208|37=>51|127=>86|n=>n,fun|1=>1|n=>n⟩
theorem laysC:Go.Proofs.Lays.n145 Tryz.prog renS:={
 mixed:=by kernel_rfl
 f145:=Tryz.func106.trans (congrArg some (by kernel_rfl))
 f217:=Tryz.func169.trans (congrArg some (by kernel_rfl))
 f219:=Tryz.func152.trans (congrArg some (by kernel_rfl))
 f220:=Tryz.func131.trans (congrArg some (by kernel_rfl))
 f224:=Tryz.func171.trans (congrArg some (by kernel_rfl))
 f225:=Tryz.func170.trans (congrArg some (by kernel_rfl))
 f266:=Tryz.func182.trans (congrArg some (by kernel_rfl))
 f267:=Tryz.func172.trans (congrArg some (by kernel_rfl))
 f314:=Tryz.func183.trans (congrArg some (by kernel_rfl))
 t3:=Tryz.underlying3
 a3:=Tryz.isAgg3
 z3:=Tryz.sizeOf3
 v3:=Tryz.zeroValue3
 t4:=Tryz.underlying4
 a4:=Tryz.isAgg4
 z4:=Tryz.sizeOf4
 v4:=Tryz.zeroValue4
 t5:=Tryz.underlying5
 a5:=Tryz.isAgg5
 z5:=Tryz.sizeOf5
 v5:=Tryz.zeroValue5
 t9:=Tryz.underlying9
 a9:=Tryz.isAgg9
 z9:=Tryz.sizeOf9
 v9:=Tryz.zeroValue9
 t46:=Tryz.underlying197
 a46:=Tryz.isAgg197
 z46:=Tryz.sizeOf197
 v46:=Tryz.zeroValue197
 t51:=Tryz.underlying194
 a51:=Tryz.isAgg194
 z51:=Tryz.sizeOf194
 v51:=Tryz.zeroValue194
 t59:=Tryz.underlying152
 a59:=Tryz.isAgg152
 z59:=Tryz.sizeOf152
 v59:=Tryz.zeroValue152
 t146:=Tryz.underlying208
 a146:=Tryz.isAgg208
 z146:=Tryz.sizeOf208
 v146:=Tryz.zeroValue208
 g1:=by kernel_rfl}
theorem laysP:Go.Proofs.Lays.n99 Tryz.prog renS:={
 mixed:=by kernel_rfl
 f99:=Tryz.func105.trans (congrArg some (by kernel_rfl))
 f206:=Tryz.func130.trans (congrArg some (by kernel_rfl))
 t3:=Tryz.underlying3
 a3:=Tryz.isAgg3
 z3:=Tryz.sizeOf3
 v3:=Tryz.zeroValue3
 t4:=Tryz.underlying4
 a4:=Tryz.isAgg4
 z4:=Tryz.sizeOf4
 v4:=Tryz.zeroValue4
 t9:=Tryz.underlying9
 a9:=Tryz.isAgg9
 z9:=Tryz.sizeOf9
 v9:=Tryz.zeroValue9}
theorem laysN:Go.Proofs.LaysM.n316 Tryz.prog renS:={
 mixed:=by kernel_rfl
 f316:=Tryz.func155.trans (congrArg some (by kernel_rfl))
 t0:=Tryz.underlying0
 a0:=Tryz.isAgg0
 z0:=Tryz.sizeOf0
 v0:=Tryz.zeroValue0
 t3:=Tryz.underlying3
 a3:=Tryz.isAgg3
 z3:=Tryz.sizeOf3
 v3:=Tryz.zeroValue3
 t4:=Tryz.underlying4
 a4:=Tryz.isAgg4
 z4:=Tryz.sizeOf4
 v4:=Tryz.zeroValue4
 t9:=Tryz.underlying9
 a9:=Tryz.isAgg9
 z9:=Tryz.sizeOf9
 v9:=Tryz.zeroValue9
 t37:=Tryz.underlying51
 a37:=Tryz.isAgg51
 z37:=Tryz.sizeOf51
 v37:=Tryz.zeroValue51
 t127:=Tryz.underlying86
 a127:=Tryz.isAgg86
 z127:=Tryz.sizeOf86
 v127:=Tryz.zeroValue86
 t5:=Tryz.underlying5
 a5:=Tryz.isAgg5
 z5:=Tryz.sizeOf5
 v5:=Tryz.zeroValue5
 i0:=by kernel_rfl
 i3:=by kernel_rfl
 i4:=by kernel_rfl
 i5:=by kernel_rfl
 i9:=by kernel_rfl
 i37:=by kernel_rfl
 i127:=by kernel_rfl}
theorem hasPrefix_any (s p:ByteArray) (w:World):Calls Tryz.prog 105 #[.string s,.string p] w fun e w'=>e=.returned (.bool (Lib.hasPrefix s.data.toList p.data.toList))∧w=w':=
 Calls.mono (Any.strings_HasPrefix laysP s p w) fun _ _ h=>⟨h.1,h.2.symm⟩
theorem cut_any (s p:ByteArray) (hs:s.size≤60000) (w:World) (hm:MaxL w):Calls Tryz.prog 106 #[.string s,.string p] w fun e w'=>e=.returned (.tuple #[.string ⟨(Lib.cut s.data.toList p.data.toList).1.toArray⟩,.string ⟨(Lib.cut s.data.toList p.data.toList).2.1.toArray⟩,.bool (Lib.cut s.data.toList p.data.toList).2.2])∧∃ n,w'=w.drewN n:=by
 obtain ⟨m,hm⟩:=hm;exact Any.strings_Cut laysC s p m w (by omega) hm
theorem liteclone_any (s:ByteArray) (hs:s.size≤60000) (w:World):Calls Tryz.prog 155 #[.string s] w fun e w'=>e=.returned (.string s)∧Below w.heap.size w w':=
 Any.stringslite_Clone laysN s w (by omega)
theorem clone_any (s:ByteArray) (hs:s.size≤60000) (w:World):Calls Tryz.prog 139 #[.string s] w fun e w'=>e=.returned (.string s)∧Below w.heap.size w w':=by
 have C:=Lib.hid fun W=>liteclone_any s hs W
 clear hs;go_enter Tryz.func139,Tryz.ntmps139
 go_wp2_with (go_at_call 155;(with_reducible refine (C.out _).mono ?_);rintro e w1 ⟨rfl,hb⟩;have HB:=Lib.hid hb;clear hb)
 go_ret
 exact ⟨rfl,HB.out⟩
end tk
end Go.Proofs.YtdefgghhkknnpaaGreatDoor

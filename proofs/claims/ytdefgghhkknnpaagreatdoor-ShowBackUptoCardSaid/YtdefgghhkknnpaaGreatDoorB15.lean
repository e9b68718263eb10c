/- For every program whose reading is of bulk at most 1048576 the law ShowBack returns true and leaves its argument as it was: the given statement Rows.ShowBackUptoCardSaid. No condition beyond the given row (what is read is of bulk at most 1048576; its listed library tables lie as the text of the program lays them). Ahead of it, what it leans on. The law ShowBack, over any program in memory: it is true. Conditions: the library's variable MaxLen holds some number, its table of powers of ten lies as it lays it; what memory can hold; at most 2^40 parts; a text of at most 2^47 bytes. How a row lies in memory, read out of what a claim says of its argument, with how much it holds. No condition. How an expression lies in memory, read out of what a claim says of its argument; how much it holds, how long its text is. No condition. How long a statement's text can be. No condition. How statements lie in memory, read out of what a claim says of its argument; how much they hold, how long their text is. No condition. How statements and programs lie in memory, read out of what a claim says of its argument; how much they hold, how long their text is. No condition. How a program lies in memory, read out of what a claim says of its argument; how much it holds, how long its text is. No condition. -/
import Derived.Test.YtdefgghhkknnpaaGreatDoorB08
import Derived.Test.YtdefgghhkknnpaaGreatDoorB14
import Derived.Deep.Slices
import Derived.Test.YtdefgghhkknnpaaGreatDoorTie
import Derived.Test.YtdefgghhkknnpaaGreatDoorCards
import Derived.SevenTiedAt
import Derived.Deep.DeepHandedRow
set_option linter.unusedVariables false
set_option linter.unusedSimpArgs false
set_option maxRecDepth 100000
set_option maxHeartbeats 40000000
namespace Go.Proofs.YtdefgghhkknnpaaGreatDoor
namespace sh
open ChangeShapes WideShapes ChangeAt RowKit k rr tk tr
theorem back_long {p:Pg} {h:GH} {w:World} (hM:MaxL w) (hL:Laid w) (hp:PgAt w w.heap.size p h) (hin:inP p) (hr:rSs p.body) (hW:wsS p.body≤big) (hV:p.vars.length≤1099511627776) (hlen:pgB p=true→(pgS p).length≤lim) (hu:shortB p=false):Calls Tryz.prog 4 #[.agg (gC h).toArray] w fun e w'=>e=.returned (.bool true)∧Below w.heap.size w w':=by
 have AW:=qh fun W (hb:Below w.heap.size w W)=>awake_any W (hM.below hb) (hL.below hb)
 have SC:=qh fun W (hb:Below w.heap.size w W)=>refshort_any (PgAt.below hp hb hb.size) (show wsS p.body≤1099511627776 from hW) hV
 rw [hu] at SC;have HB:=qh (al1 w (.cells (gC h).toArray 25));have X1:=qh (Box.new w (gC h).toArray 25);have Z1:=qh (show w.heap.size<(w.alloc (.cells (gC h).toArray 25)).heap.size by simp);clear hM hL hp hin hr hW hV hlen hu;go_enter Tryz.func4,Tryz.ntmps4
 go_upto_region 1 with (fail)
 generalize w.alloc (.cells (gC h).toArray 25)=w1 at *;have X1:Hid (Box w1 w.heap.size 0 (gC h)):=X1;go_wp2_with (go_at_call 6;fail)
 refine (AW.out _ HB.out).mono ?_;rintro e w2 ⟨rfl,hb⟩;have B2:=btr HB hb;have X2:=qh (X1.out.below hb Z1.out);have Z2:=zbl Z1 hb;clear hb X1 HB Z1 AW;go_wp2_with (first|((with_reducible refine m_load X2.out 25 1 ?_ ?_ ?_ ?_ ?_ ?_);rfl;rfl;rfl;rfl;kernel_rfl)|(go_at_call 7;fail))
 refine (SC.out _ B2.out).mono ?_;rintro e w3 ⟨rfl,hb⟩;have B3:=btr B2 hb;have X3:=qh (X2.out.below hb Z2.out);have Z3:=zbl Z2 hb;clear hb X2 B2 Z2 SC;go_wp2_with fail
 go_ret
 exact ⟨rfl,B3.out⟩
theorem back_no {p:Pg} {h:GH} {w:World} (hM:MaxL w) (hL:Laid w) (hp:PgAt w w.heap.size p h) (hin:inP p) (hr:rSs p.body) (hW:wsS p.body≤big) (hV:p.vars.length≤1099511627776) (hlen:pgB p=true→(pgS p).length≤lim) (hu:shortB p=true) {er:Int} (hR:showP p=([],er)) (he:(er != 0)=true):Calls Tryz.prog 4 #[.agg (gC h).toArray] w fun e w'=>e=.returned (.bool true)∧Below w.heap.size w w':=by
 have AW:=qh fun W (hb:Below w.heap.size w W)=>awake_any W (hM.below hb) (hL.below hb)
 have SC:=qh fun W (hb:Below w.heap.size w W)=>refshort_any (PgAt.below hp hb hb.size) (show wsS p.body≤1099511627776 from hW) hV
 rw [hu] at SC;have SX:=qh fun W (hb:Below w.heap.size w W)=>show_any (hM.below hb) (hL.below hb) (PgAt.below hp hb hb.size) hin hW hlen
 rw [hR] at SX;simp only [sv] at SX;have HB:=qh (al1 w (.cells (gC h).toArray 25));have X1:=qh (Box.new w (gC h).toArray 25);have Z1:=qh (show w.heap.size<(w.alloc (.cells (gC h).toArray 25)).heap.size by simp);clear hM hL hp hin hr hW hV hlen hu hR;go_enter Tryz.func4,Tryz.ntmps4
 go_upto_region 1 with (fail)
 generalize w.alloc (.cells (gC h).toArray 25)=w1 at *;have X1:Hid (Box w1 w.heap.size 0 (gC h)):=X1;go_wp2_with (go_at_call 6;fail)
 refine (AW.out _ HB.out).mono ?_;rintro e w2 ⟨rfl,hb⟩;have B2:=btr HB hb;have X2:=qh (X1.out.below hb Z1.out);have Z2:=zbl Z1 hb;clear hb X1 HB Z1 AW;go_wp2_with (first|((with_reducible refine m_load X2.out 25 1 ?_ ?_ ?_ ?_ ?_ ?_);rfl;rfl;rfl;rfl;kernel_rfl)|(go_at_call 7;fail))
 refine (SC.out _ B2.out).mono ?_;rintro e w3 ⟨rfl,hb⟩;have B3:=btr B2 hb;have X3:=qh (X2.out.below hb Z2.out);have Z3:=zbl Z2 hb;clear hb X2 B2 Z2 SC;go_wp2_with (first|((with_reducible refine m_load X3.out 25 1 ?_ ?_ ?_ ?_ ?_ ?_);rfl;rfl;rfl;rfl;kernel_rfl)|(go_at_call 8;fail))
 refine (SX.out _ B3.out).mono ?_;rintro e w4 ⟨rfl,hb⟩;have B4:=btr B3 hb;have X4:=qh (X3.out.below hb Z3.out);have Z4:=zbl Z3 hb;clear hb X3 B3 Z3 SX;go_wp2_with fail
 go_ret
 exact ⟨rfl,B4.out⟩
theorem back_same {p:Pg} {h:GH} {w:World} (hM:MaxL w) (hL:Laid w) (hp:PgAt w w.heap.size p h) (hin:inP p) (hr:rSs p.body) (hW:wsS p.body≤big) (hV:p.vars.length≤1099511627776) (hlen:pgB p=true→(pgS p).length≤lim) (hu:shortB p=true) (hR:showP p=(pgS p,0)) (hl:(pgS p).length≤16384) (hK:(parse (pgS p)).2.1=0∧pgSame p (parse (pgS p)).1=true):Calls Tryz.prog 4 #[.agg (gC h).toArray] w fun e w'=>e=.returned (.bool true)∧Below w.heap.size w w':=by
 have AW:=qh fun W (hb:Below w.heap.size w W)=>awake_any W (hM.below hb) (hL.below hb)
 have SC:=qh fun W (hb:Below w.heap.size w W)=>refshort_any (PgAt.below hp hb hb.size) (show wsS p.body≤1099511627776 from hW) hV
 rw [hu] at SC;have SX:=qh fun W (hb:Below w.heap.size w W)=>show_any (hM.below hb) (hL.below hb) (PgAt.below hp hb hb.size) hin hW hlen
 rw [hR] at SX;simp only [sv] at SX;have PX:=qh fun W (hMW:MaxL W)=>parse_any ⟨(pgS p).toArray⟩ (by show (pgS p).toArray.size≤16384;rw [List.size_toArray];exact hl) W hMW
 unfold GotG at PX;rw [show (⟨(pgS p).toArray⟩:ByteArray).data.toList=pgS p from rfl] at PX;obtain ⟨⟨Q,f,⟨pk,pt,pn,pl,pc⟩⟩,hpx⟩:∃ R,parse (pgS p)=R:=⟨_,rfl⟩;rw [hpx] at PX hK;simp only at PX hK;rw [show (tC ⟨pk,pt,pn,pl,pc⟩).toArray=#[.int .i64 pk,.string ⟨pt.toArray⟩,.int .i64 pn,.int .i64 pl,.int .i64 pc] from rfl] at PX;generalize (⟨(pgS p).toArray⟩:ByteArray)=xs at *;have MX:=qh hM;obtain ⟨rfl,hK2⟩:=hK;have SAM:=qh fun h' W (hb:Below w.heap.size w W) hq=>same_any p Q h h' W (PgAt.below hp hb hb.size) hq
 rw [hK2] at SAM;have HB:=qh (al1 w (.cells (gC h).toArray 25));have X1:=qh (Box.new w (gC h).toArray 25);have Z1:=qh (show w.heap.size<(w.alloc (.cells (gC h).toArray 25)).heap.size by simp);clear hM hL hp hin hr hW hV hlen hu hR hl hK2 hpx;go_enter Tryz.func4,Tryz.ntmps4
 go_upto_region 1 with (fail)
 generalize w.alloc (.cells (gC h).toArray 25)=w1 at *;have X1:Hid (Box w1 w.heap.size 0 (gC h)):=X1;go_wp2_with (go_at_call 6;fail)
 refine (AW.out _ HB.out).mono ?_;rintro e w2 ⟨rfl,hb⟩;have B2:=btr HB hb;have X2:=qh (X1.out.below hb Z1.out);have Z2:=zbl Z1 hb;clear hb X1 HB Z1 AW;go_wp2_with (first|((with_reducible refine m_load X2.out 25 1 ?_ ?_ ?_ ?_ ?_ ?_);rfl;rfl;rfl;rfl;kernel_rfl)|(go_at_call 7;fail))
 refine (SC.out _ B2.out).mono ?_;rintro e w3 ⟨rfl,hb⟩;have B3:=btr B2 hb;have X3:=qh (X2.out.below hb Z2.out);have Z3:=zbl Z2 hb;clear hb X2 B2 Z2 SC;go_wp2_with (first|((with_reducible refine m_load X3.out 25 1 ?_ ?_ ?_ ?_ ?_ ?_);rfl;rfl;rfl;rfl;kernel_rfl)|(go_at_call 8;fail))
 refine (SX.out _ B3.out).mono ?_;rintro e w4 ⟨rfl,hb⟩;have B4:=btr B3 hb;have X4:=qh (X3.out.below hb Z3.out);have Z4:=zbl Z3 hb;clear hb X3 B3 Z3 SX;go_wp2_with (go_at_call 10;fail)
 with_reducible refine (PX.out _ (MX.out.below B4.out)).mono ?_
 rintro e w5 ⟨⟨n1,⟨VA1,vl1,vc1⟩,⟨SA1,sl1,sc1⟩⟩,rfl,hq,hb⟩;have B5:=btr B4 hb;have X5:=qh (X4.out.below hb Z4.out);have Z5:=zbl Z4 hb;clear hb X4 B4 Z4 PX MX;simp only [gC,sv,Sl.v];go_upto_region 9 with (fail)
 obtain ⟨x6,_,hb6,hz6⟩:=boxes2 (Below.refl ((w5.alloc (.cells #[.string ⟨n1.toArray⟩,.slice VA1 vl1 vc1,.slice SA1 sl1 sc1] 25)).alloc (.cells #[.int .i64 pk,.string ⟨pt.toArray⟩,.int .i64 pn,.int .i64 pl,.int .i64 pc] 34)).heap.size ((w5.alloc (.cells #[.string ⟨n1.toArray⟩,.slice VA1 vl1 vc1,.slice SA1 sl1 sc1] 25)).alloc (.cells #[.int .i64 pk,.string ⟨pt.toArray⟩,.int .i64 pn,.int .i64 pl,.int .i64 pc] 34)));have hlt:w5.heap.size<((w5.alloc (.cells #[.string ⟨n1.toArray⟩,.slice VA1 vl1 vc1,.slice SA1 sl1 sc1] 25)).alloc (.cells #[.int .i64 pk,.string ⟨pt.toArray⟩,.int .i64 pn,.int .i64 pl,.int .i64 pc] 34)).heap.size:=by simp;omega
 have hq2:=hq.below hb6 hb6.size;clear hq;have B6:=btr B5 hb6;have X6:=qh (X5.out.below hb6 Z5.out);have Z6:=zbl Z5 hb6;clear hb6 hz6 X5 B5 Z5;generalize ((w5.alloc (.cells #[.string ⟨n1.toArray⟩,.slice VA1 vl1 vc1,.slice SA1 sl1 sc1] 25)).alloc (.cells #[.int .i64 pk,.string ⟨pt.toArray⟩,.int .i64 pn,.int .i64 pl,.int .i64 pc] 34))=w6 at *;generalize w5.heap.size=g5 at *;have Q6:=qh hq2;have Y6:=qh x6;have Y6lt:=qh hlt;clear hq2 x6 hlt;go_wp2_with (first|((with_reducible refine m_load X6.out 25 1 ?_ ?_ ?_ ?_ ?_ ?_);rfl;rfl;rfl;rfl;kernel_rfl)|((with_reducible refine m_load Y6.out 25 5 ?_ ?_ ?_ ?_ ?_ ?_);rfl;rfl;rfl;rfl;kernel_rfl)|(go_at_call 12;fail))
 refine (SAM.out ⟨n1,⟨VA1,vl1,vc1⟩,⟨SA1,sl1,sc1⟩⟩ _ B6.out Q6.out).mono ?_;rintro e w7 ⟨rfl,hb⟩;have B7:=btr B6 hb;clear hb X6 B6 Z6 SAM;go_wp2_with fail
 go_ret
 exact ⟨rfl,B7.out⟩
theorem back_deep {p:Pg} {h:GH} {w:World} (hM:MaxL w) (hL:Laid w) (hp:PgAt w w.heap.size p h) (hin:inP p) (hr:rSs p.body) (hW:wsS p.body≤big) (hV:p.vars.length≤1099511627776) (hlen:pgB p=true→(pgS p).length≤lim) (hu:shortB p=true) (hR:showP p=(pgS p,0)) (hl:(pgS p).length≤16384) (hK:(parse (pgS p)).2.1=13∧8<(zP 2000 p).2):Calls Tryz.prog 4 #[.agg (gC h).toArray] w fun e w'=>e=.returned (.bool true)∧Below w.heap.size w w':=by
 have AW:=qh fun W (hb:Below w.heap.size w W)=>awake_any W (hM.below hb) (hL.below hb)
 have SC:=qh fun W (hb:Below w.heap.size w W)=>refshort_any (PgAt.below hp hb hb.size) (show wsS p.body≤1099511627776 from hW) hV
 rw [hu] at SC;have SX:=qh fun W (hb:Below w.heap.size w W)=>show_any (hM.below hb) (hL.below hb) (PgAt.below hp hb hb.size) hin hW hlen
 rw [hR] at SX;simp only [sv] at SX;have PX:=qh fun W (hMW:MaxL W)=>parse_any ⟨(pgS p).toArray⟩ (by show (pgS p).toArray.size≤16384;rw [List.size_toArray];exact hl) W hMW
 unfold GotG at PX;rw [show (⟨(pgS p).toArray⟩:ByteArray).data.toList=pgS p from rfl] at PX;obtain ⟨⟨Q,f,⟨pk,pt,pn,pl,pc⟩⟩,hpx⟩:∃ R,parse (pgS p)=R:=⟨_,rfl⟩;rw [hpx] at PX hK;simp only at PX hK;rw [show (tC ⟨pk,pt,pn,pl,pc⟩).toArray=#[.int .i64 pk,.string ⟨pt.toArray⟩,.int .i64 pn,.int .i64 pl,.int .i64 pc] from rfl] at PX;generalize (⟨(pgS p).toArray⟩:ByteArray)=xs at *;have MX:=qh hM;obtain ⟨rfl,hK2⟩:=hK;have SZ:=qh fun W (hb:Below w.heap.size w W)=>refsizep_any (PgAt.below hp hb hb.size) (show wsS p.body≤1099511627776 from hW) hV (m:=2000) (by decide) (by decide)
 obtain ⟨z1,hz1⟩:∃ z1,(zP 2000 p).1=z1:=⟨_,rfl⟩;obtain ⟨z2,hz2⟩:∃ z2,(zP 2000 p).2=z2:=⟨_,rfl⟩;rw [hz1,hz2] at SZ;rw [hz2] at hK2;have HZ:=qh (decide_eq_true hK2);clear hz1 hz2;have HB:=qh (al1 w (.cells (gC h).toArray 25));have X1:=qh (Box.new w (gC h).toArray 25);have Z1:=qh (show w.heap.size<(w.alloc (.cells (gC h).toArray 25)).heap.size by simp);clear hM hL hp hin hr hW hV hlen hu hR hl hK2 hpx;go_enter Tryz.func4,Tryz.ntmps4
 go_upto_region 1 with (fail)
 generalize w.alloc (.cells (gC h).toArray 25)=w1 at *;have X1:Hid (Box w1 w.heap.size 0 (gC h)):=X1;go_wp2_with (go_at_call 6;fail)
 refine (AW.out _ HB.out).mono ?_;rintro e w2 ⟨rfl,hb⟩;have B2:=btr HB hb;have X2:=qh (X1.out.below hb Z1.out);have Z2:=zbl Z1 hb;clear hb X1 HB Z1 AW;go_wp2_with (first|((with_reducible refine m_load X2.out 25 1 ?_ ?_ ?_ ?_ ?_ ?_);rfl;rfl;rfl;rfl;kernel_rfl)|(go_at_call 7;fail))
 refine (SC.out _ B2.out).mono ?_;rintro e w3 ⟨rfl,hb⟩;have B3:=btr B2 hb;have X3:=qh (X2.out.below hb Z2.out);have Z3:=zbl Z2 hb;clear hb X2 B2 Z2 SC;go_wp2_with (first|((with_reducible refine m_load X3.out 25 1 ?_ ?_ ?_ ?_ ?_ ?_);rfl;rfl;rfl;rfl;kernel_rfl)|(go_at_call 8;fail))
 refine (SX.out _ B3.out).mono ?_;rintro e w4 ⟨rfl,hb⟩;have B4:=btr B3 hb;have X4:=qh (X3.out.below hb Z3.out);have Z4:=zbl Z3 hb;clear hb X3 B3 Z3 SX;go_wp2_with (go_at_call 10;fail)
 with_reducible refine (PX.out _ (MX.out.below B4.out)).mono ?_
 rintro e w5 ⟨⟨n1,⟨VA1,vl1,vc1⟩,⟨SA1,sl1,sc1⟩⟩,rfl,hq,hb⟩;have B5:=btr B4 hb;have X5:=qh (X4.out.below hb Z4.out);have Z5:=zbl Z4 hb;clear hb X4 B4 Z4 PX MX;simp only [gC,sv,Sl.v];go_upto_region 9 with (fail)
 obtain ⟨x6,_,hb6,hz6⟩:=boxes2 (Below.refl ((w5.alloc (.cells #[.string ⟨n1.toArray⟩,.slice VA1 vl1 vc1,.slice SA1 sl1 sc1] 25)).alloc (.cells #[.int .i64 pk,.string ⟨pt.toArray⟩,.int .i64 pn,.int .i64 pl,.int .i64 pc] 34)).heap.size ((w5.alloc (.cells #[.string ⟨n1.toArray⟩,.slice VA1 vl1 vc1,.slice SA1 sl1 sc1] 25)).alloc (.cells #[.int .i64 pk,.string ⟨pt.toArray⟩,.int .i64 pn,.int .i64 pl,.int .i64 pc] 34)));have hlt:w5.heap.size<((w5.alloc (.cells #[.string ⟨n1.toArray⟩,.slice VA1 vl1 vc1,.slice SA1 sl1 sc1] 25)).alloc (.cells #[.int .i64 pk,.string ⟨pt.toArray⟩,.int .i64 pn,.int .i64 pl,.int .i64 pc] 34)).heap.size:=by simp;omega
 have hq2:=hq.below hb6 hb6.size;clear hq;have B6:=btr B5 hb6;have X6:=qh (X5.out.below hb6 Z5.out);have Z6:=zbl Z5 hb6;clear hb6 hz6 X5 B5 Z5;generalize ((w5.alloc (.cells #[.string ⟨n1.toArray⟩,.slice VA1 vl1 vc1,.slice SA1 sl1 sc1] 25)).alloc (.cells #[.int .i64 pk,.string ⟨pt.toArray⟩,.int .i64 pn,.int .i64 pl,.int .i64 pc] 34))=w6 at *;generalize w5.heap.size=g5 at *;have Q6:=qh hq2;have Y6:=qh x6;have Y6lt:=qh hlt;clear hq2 x6 hlt;go_wp2_with (first|((with_reducible refine m_load X6.out 25 1 ?_ ?_ ?_ ?_ ?_ ?_);rfl;rfl;rfl;rfl;kernel_rfl)|(go_at_call 11;fail))
 refine (SZ.out _ B6.out).mono ?_;rintro e w7 ⟨rfl,hb⟩;have B7:=btr B6 hb;clear hb X6 B6 Z6 SZ;have hz:=HZ.out;go_wp2_with fail
 go_ret
 exact ⟨rfl,B7.out⟩
theorem back_walk {p:Pg} {h:GH} {w:World} (hM:MaxL w) (hL:Laid w) (hp:PgAt w w.heap.size p h) (hin:inP p) (hr:rSs p.body) (hW:wsS p.body≤big) (hV:p.vars.length≤1099511627776) (hlen:pgB p=true→(pgS p).length≤lim):Calls Tryz.prog 4 #[.agg (gC h).toArray] w fun e w'=>e=.returned (.bool true)∧Below w.heap.size w w':=by
 cases hu:shortB p with
 | false=>exact back_long hM hL hp hin hr hW hV hlen hu
 | true=>
  by_cases hb:pgB p=true
  ·by_cases hl:16384<(pgS p).length
   ·exact back_no hM hL hp hin hr hW hV hlen hu (er:=13) (by unfold showP;rw [if_pos hb,if_pos hl]) (by decide)
   ·have hl':(pgS p).length≤16384:=by omega
    have hR:showP p=(pgS p,0):=by unfold showP;rw [if_pos hb,if_neg hl]
    rcases parse_pg hb hin hl' with hK|hK
    ·exact back_same hM hL hp hin hr hW hV hlen hu hR hl' hK
    ·exact back_deep hM hL hp hin hr hW hV hlen hu hR hl' ⟨hK.1,deep_p hu hK.2⟩
  ·exact back_no hM hL hp hin hr hW hV hlen hu (er:=5) (by unfold showP;rw [if_neg hb]) (by decide)
def All2 {α β:Type} (Q:α→β→Prop):List α→List β→Prop
 | [],[]=>True
 | a::l,b::m=>Q a b∧All2 Q l m
 | _,_=>False
theorem all2_map {α β:Type} {Q:α→β→Prop} (f:Nat→α) (g:Nat→β):∀ n s,(∀ i,i<n→Q (f (s+i)) (g (s+i)))→All2 Q ((List.range' s n).map f) ((List.range' s n).map g)
 | 0,s,_=>trivial
 | n+1,s,h=>⟨h 0 (by omega),all2_map f g n (s+1) (fun i hi=>by
   have:=h (i+1) (by omega);rwa [show s+(i+1)=s+1+i by omega] at this)⟩
theorem All2.len {α β:Type} {Q:α→β→Prop}:∀ {L:List α} {M:List β},All2 Q L M→L.length=M.length
 | [],[],_=>rfl
 | a::l,b::m,h=>by rw [List.length_cons,List.length_cons,h.2.len]
theorem bulk_pos {H:Type} (d:DataW H):1≤Rows.uptoBulk d:=by
 cases d with
 | lit l=>cases l<;>simp [Rows.uptoBulk]
 | nil=>simp [Rows.uptoBulk]
 | ptr d=>simp [Rows.uptoBulk]
 | slice elems spare=>simp [Rows.uptoBulk]
 | agg parts=>simp [Rows.uptoBulk]
 | iface t d=>simp [Rows.uptoBulk]
 | map entries=>simp [Rows.uptoBulk]
 | held h=>simp [Rows.uptoBulk]
theorem bulk_part {H:Type} {d:DataW H} {l:List (DataW H)} (h:d∈l):Rows.uptoBulk d≤Rows.uptoBulkAll l:=by
 induction l with
 | nil=>cases h
 | cons x r ih=>
  simp only [Rows.uptoBulkAll];cases List.mem_cons.1 h with
  | inl e=>subst e;omega
  | inr e=>have:=ih e;omega
theorem add_add' (a:Addr) (i j:Nat):(a.add i).add j=a.add (i+j):=by
 obtain ⟨b,o,s⟩:=a;unfold Addr.add;by_cases h0:i=0<;>by_cases h2:j=0<;>simp [h0,h2,Nat.add_assoc]
 all_goals (try omega)
section
variable {H:Type} {enc:TypeId×Value→H} {w:World} {base:Nat} {held:Bool}
theorem row_of {α:Type} [Inhabited α] {en:α→List Value} {z:Nat} {Q:α→DataW H→Prop} (hz:∀ a,(en a).length=z) (hz0:0<z) {t e:TypeId} (ht:Tryz.prog.underlying t=some (.slice e)) (hc:Tryz.prog.cellsOf e=z) {K:Nat}
  (hr:∀ (fuel:Nat) (cs:List Value) (y:DataW H×List MemPlace),DataW.trod enc Tryz.prog w base (fun _=>true) held fuel e cs=some y→Rows.uptoBulk y.1<K→∃ a,cs=en a∧Q a y.1)
  {fuel:Nat} {cs:List Value} {x:DataW H×List MemPlace} (h:DataW.trod enc Tryz.prog w base (fun _=>true) held fuel t cs=some x) (hK:Rows.uptoBulk x.1≤K) :
  ∃ (s:Sl) (L:List α) (ds:List (DataW H)),cs=[s.v]∧RS en z w w.heap.size s L∧All2 Q L ds∧Rows.uptoBulkAll ds+1≤Rows.uptoBulk x.1:=by
 rcases Go.Deep.open_slice ht h with ⟨hcs,hx⟩|⟨a,len,cap,m,n,D,Pl,hcs,_,hl,hm,hmm,hx,hi⟩
 ·refine ⟨⟨none,0,0⟩,[],[],hcs,⟨rfl,Nat.le_refl _,(by show 0≤maxLen;unfold maxLen;omega),fun _=>rfl,fun h=>absurd h (Nat.lt_irrefl 0)⟩,trivial,?_⟩
  have:=bulk_pos x.1;simpa [Rows.uptoBulkAll] using this
 ·have hmc:m=cap:=by rw [hmm];simp
  have hbk:Rows.uptoBulk x.1=Rows.uptoBulkAll ((List.range len).map D)+Rows.uptoBulkAll ((List.range (m-len)).map fun j=>D (len+j))+1:=by rw [hx];rfl
  obtain ⟨f,hf⟩:=Go.Deep.choose_lt (α:=α) (n:=len) (p:=fun i v=>(∀ (j:Nat) (u:Value),(en v)[j]?=some u→w.cell? (a.add (i*z+j))=some u)∧Q v (D i)) (fun i hil=>by
   obtain ⟨cs',hcells,htrod⟩:=hi i (by omega);have hmem:D i∈(List.range len).map D:=List.mem_map.2 ⟨i,List.mem_range.2 hil,rfl⟩;obtain ⟨v,hv,hq⟩:=hr _ _ _ htrod (by have:=bulk_part hmem;show Rows.uptoBulk (D i)<K;omega);obtain ⟨_,hlen,hat⟩:=World.cells?_some hcells;refine ⟨v,fun j u hu=>?_,hq⟩;have hj:j<z:=by rw [←hz v];exact (List.getElem?_eq_some_iff.1 hu).1
   have h1:=hat j (by rw [hc];exact hj);rw [add_add',hc] at h1;rw [h1,hv,hu])
  refine ⟨⟨some a,len,cap⟩,(List.range len).map f,(List.range len).map D,hcs,⟨by simp,hl,hm,(fun h=>by cases h),fun hn=>?_⟩,?_,by omega⟩
  ·obtain ⟨b,off,spot⟩:=a
   have hz1:=hz (f 0);have h0:=(hf 0 hn).1 0 ((en (f 0))[0]'(by omega)) (List.getElem?_eq_getElem (by omega));have hspot:spot=none:=by simpa [Addr.add] using World.cell?_spot h0
   subst hspot;have e:∀ r,(Addr.add ⟨b,off,none⟩ r)=⟨b,off+r,none⟩:=fun r=>by unfold Addr.add;by_cases h:r=0<;>simp [h]
   have h2:=h0;rw [e] at h2;refine ⟨b,off,rfl,k.lt_of_cell h2,fun i y hy=>?_⟩;have hil:i<len:=by
    have:=(List.getElem?_eq_some_iff.1 hy).1;simpa using this
   have hyf:f i=y:=by
    rw [List.getElem?_map,List.getElem?_range hil] at hy;simpa using hy
   subst hyf;intro j u hu;have:=(hf i hil).1 j u hu;rw [e,←Nat.add_assoc] at this;exact this
  ·rw [List.range_eq_range']
   exact all2_map f D len 0 (fun i hi=>by rw [Nat.zero_add];exact (hf i hi).2)
end
theorem wf64 {a:Int} (h:(Lit.int .i64 a).wf=true):InJ a:=by
 unfold InJ;simp only [Lit.wf,IntKind.min,IntKind.max,IntKind.signed,IntKind.bits,Bool.and_eq_true,decide_eq_true_eq,if_true] at h;omega
def sumE:List Ex→Nat
 | []=>0
 | x::l=>(exS x).length+sumE l
theorem head_le:∀ L:List Ex,((exsS L).headD []).length+(((exsS L).drop 1).headD []).length≤sumE L
 | []=>by simp [exsS,sumE]
 | [x]=>by simp [exsS,sumE]
 | x::y::l=>by simp [exsS,sumE]<;>omega
theorem opS_le (o:Int):(opS o).length≤3:=by
 by_cases h:8≤o∧o≤21
 ·rcases (show o=8∨o=9∨o=10∨o=11∨o=12∨o=13∨o=14∨o=15∨o=16∨o=17∨o=18∨o=19∨o=20∨o=21 by omega) with rfl|rfl|rfl|rfl|rfl|rfl|rfl|rfl|rfl|rfl|rfl|rfl|rfl|rfl<;>decide
 ·unfold opS
  rw [if_neg (by omega),if_neg (by omega),if_neg (by omega),if_neg (by omega),if_neg (by omega),if_neg (by omega),if_neg (by omega),if_neg (by omega),if_neg (by omega),if_neg (by omega),if_neg (by omega),if_neg (by omega),if_neg (by omega),if_neg (by omega)];decide
theorem truthS_le (n:Int):(truthS n).length≤5:=by
 unfold truthS;split<;>decide
theorem exS_le (op n:Int) (nm fd:Str) (sub:List Ex) (ln:Int) (hn:InJ n):(exS (.mk op n nm fd sub ln)).length≤21+nm.length+fd.length+sumE sub:=by
 have h1:=num_len (n:=n) hn;have h2:=truthS_le n;have h3:=opS_le op;have h4:=head_le sub;rw [exS];unfold exT;repeat' split
 all_goals
  try simp only [List.length_append,List.length_cons,List.length_nil]
  omega
section
variable {H:Type} {enc:TypeId×Value→H} {w:World} {base:Nat} {held:Bool}
def QE (w:World) (h:EH) (d:DataW H):Prop:=∃ e:Ex,ExAt w w.heap.size e h∧rE e∧wE e≤Rows.uptoBulk d∧(exS e).length≤50*Rows.uptoBulk d
theorem exs_of:∀ {L:List EH} {ds:List (DataW H)},All2 (QE w) L ds→∃ E:List Ex,ExsAt w w.heap.size E L∧rEs E∧wsE E≤Rows.uptoBulkAll ds∧sumE E≤50*Rows.uptoBulkAll ds
 | [],[],_=>⟨[],by rw [ExsAt],by rw [rEs];trivial,by rw [wsE];exact Nat.zero_le _,Nat.zero_le _⟩
 | h::L,d::ds,hq=>by
  obtain ⟨e,a1,a2,a3,a4⟩:=hq.1;obtain ⟨E,b1,b2,b3,b4⟩:=exs_of hq.2;refine ⟨e::E,?_,?_,?_,?_⟩
  ·rw [ExsAt];exact ⟨h,L,rfl,a1,b1⟩
  ·rw [rEs];exact ⟨a2,b2⟩
  ·rw [wsE,Rows.uptoBulkAll];omega
  ·rw [sumE,Rows.uptoBulkAll];omega
 | h::L,[],hq=>absurd hq (by intro h;exact h)
 | [],d::ds,hq=>absurd hq (by intro h;exact h)
instance:Inhabited EH:=⟨⟨0,0,[],[],⟨none,0,0⟩,0⟩⟩
theorem cellsE:Tryz.prog.cellsOf 44=6:=by kernel_rfl
theorem cellsI:Tryz.prog.cellsOf 3=1:=by kernel_rfl
theorem cells64:Tryz.prog.cellsOf 2=1:=by kernel_rfl
theorem cellsS:Tryz.prog.cellsOf 9=1:=by kernel_rfl
theorem cellsL:Tryz.prog.cellsOf 42=1:=by kernel_rfl
theorem six {α:Type} {l:List α} (h:l.length=6):∃ a b c d e f,l=[a,b,c,d,e,f]:=by
 match l,h with
 | [a,b,c,d,e,f],_=>exact ⟨a,b,c,d,e,f,rfl⟩
theorem sv_of (s:ByteArray):Value.string s=sv s.data.toList:=by unfold sv;rfl
theorem expr_of:∀ (K:Nat),K≤140737488355328→∀ (fuel:Nat) (cs:List Value) (x:DataW H×List MemPlace),DataW.trod enc Tryz.prog w base (fun _=>true) held fuel 44 cs=some x→Rows.uptoBulk x.1<K→∃ h,cs=eC h∧QE w h x.1
 | 0,_,_,_,_,_,h=>absurd h (by omega)
 | K+1,hKm,fuel,cs,x,h,hK=>by
  obtain ⟨xs,n,_,hx,hl,hs,hf⟩:=DataW.trod_struct Tryz.underlying44 h;rw [cellsE] at hl;obtain ⟨c0,c1,c2,c3,c4,c5,rfl⟩:=six hl;obtain ⟨y0,y1,y2,y3,y4,y5,rfl⟩:=six (l:=xs) (by rw [hs];rfl);have h0:=hf 0 _ rfl;have h1:=hf 1 _ rfl;have h2:=hf 2 _ rfl;have h3:=hf 3 _ rfl;have h4:=hf 4 _ rfl;have h5:=hf 5 _ rfl;obtain ⟨op,e0,f0,_⟩:=DataW.trod_int (x:=y0) Tryz.underlying3 h0;obtain ⟨nn,e1,f1,w1⟩:=DataW.trod_int (x:=y1) Tryz.underlying2 h1;obtain ⟨nm,e2,f2,m2⟩:=DataW.trod_string (x:=y2) Tryz.underlying9 h2;obtain ⟨fd,e3,f3,m3⟩:=DataW.trod_string (x:=y3) Tryz.underlying9 h3;obtain ⟨ln,e5,f5,_⟩:=DataW.trod_int (x:=y5) Tryz.underlying3 h5;have hb:Rows.uptoBulk x.1=1+(1+((nm.data.toList.length+1)+((fd.data.toList.length+1)+(Rows.uptoBulk y4.1+(1+0)))))+1:=by
   rw [hx];simp only [List.map_cons,List.map_nil,Rows.uptoBulk,Rows.uptoBulkAll,f0,f1,f2,f3,f5]
  obtain ⟨s,L,ds,e4,hrow,hall,hds⟩:=row_of (x:=y4) (en:=eC) (z:=6) (Q:=QE w) (K:=K) eC_len (by omega) Tryz.underlying42 cellsE (fun fuel cs y h hy=>expr_of K (by omega) fuel cs y h hy) h4 (by omega);obtain ⟨E,b1,b2,b3,b4⟩:=exs_of hall;simp [cellsI] at e0;simp [cells64] at e1;simp [cellsS] at e2;simp [cellsS] at e3;simp [cellsL] at e4;simp [cellsI] at e5;subst e0 e1 e2 e3 e4 e5;refine ⟨⟨op,nn,nm.data.toList,fd.data.toList,s,ln⟩,?_,.mk op nn nm.data.toList fd.data.toList E ln,?_,?_,?_,?_⟩
  ·rw [eC,←sv_of,←sv_of]
  ·rw [ExAt];exact ⟨rfl,rfl,rfl,rfl,rfl,L,hrow,b1⟩
  ·rw [rE]
   refine ⟨wf64 w1,?_,?_,b2⟩
   ·show nm.data.toList.length≤140737488355328;omega
   ·show fd.data.toList.length≤140737488355328;omega
  ·rw [wE];omega
  ·have:=exS_le op nn nm.data.toList fd.data.toList E ln (wf64 w1)
   omega
end
def sumT (k:Nat):List Str→Nat
 | []=>0
 | b::l=>k+b.length+sumT k l
def sumL:List (List Int)→Nat
 | []=>0
 | l::m=>24*l.length+2+sumL m
theorem head_sum (k:Nat):∀ bs:List Str,(bs.headD []).length+sumT k (bs.drop 1)≤sumT k bs
 | []=>Nat.le_refl _
 | b::l=>by
  show b.length+sumT k l≤k+b.length+sumT k l
  omega
theorem three_sum (k:Nat) (bs:List Str):(bs.headD []).length+((bs.drop 1).headD []).length+((bs.drop 2).headD []).length≤sumT k bs:=by
 have h1:=head_sum k bs;have h2:=head_sum k (bs.drop 1);have h3:=head_sum k (bs.drop 2);rw [List.drop_drop,show 1+1=2 from rfl] at h2;omega
theorem elseT_le:∀ bs:List Str,(elseT bs).length≤sumT 5 bs
 | []=>Nat.le_refl _
 | b::l=>by
  have:=elseT_le l;rw [elseT,sumT];simp only [List.length_append,List.length_cons,List.length_nil];omega
theorem ifT_le:∀ (cs:List Str) (w:Str) (bs:List Str),w.length≤6→(ifT w cs bs).length≤sumT 12 cs+sumT 5 bs
 | [],w,bs,_=>by
  rw [ifT,sumT,Nat.zero_add];exact elseT_le bs
 | c::cs,w,bs,hw=>by
  have h1:=ifT_le cs [69,76,83,73,70,32] (bs.drop 1) (by decide);have h2:=head_sum 5 bs;rw [ifT,sumT];simp only [List.length_append,List.length_cons,List.length_nil];omega
theorem labT_le:∀ (l:List Int) (m:Bool),(∀ n∈l,InI n)→(labT m l).length≤24*l.length+2
 | [],m,_=>by cases m<;>decide
 | [a],m,_=>by
  rw [labT]
  ·simp
  ·intro _ _ _ h
   cases h
 | a::b::l,m,h=>by
  have h1:=labT_le l true (fun n hn=>h n (List.mem_cons_of_mem _ (List.mem_cons_of_mem _ hn)));have h2:=num_len (h a (List.mem_cons_self ..));have h3:=num_len (h b (List.mem_cons_of_mem _ (List.mem_cons_self ..)));rw [labT];simp only [List.length_append,List.length_cons];split<;>split<;>simp only [List.length_append,List.length_cons,List.length_nil]<;>omega
theorem caseT_le:∀ (ls:List (List Int)) (bs:List Str),(∀ l∈ls,∀ n∈l,InI n)→(caseT ls bs).length≤sumL ls+sumT 5 bs
 | [],bs,_=>by
  rw [caseT,sumL,Nat.zero_add];exact elseT_le bs
 | l::ls,bs,h=>by
  have h1:=caseT_le ls (bs.drop 1) (fun l hl=>h l (List.mem_cons_of_mem _ hl));have h2:=head_sum 5 bs;have h3:=labT_le l false (h l (List.mem_cons_self ..));rw [caseT,sumL];simp only [List.length_append];omega
theorem argT_le:∀ (fs:List Str) (m:Bool) (cs:List Str),(argT m fs cs).length≤sumT 6 fs+sumT 12 cs
 | [],m,cs=>by
  rw [argT];exact Nat.zero_le _
 | f::fs,m,cs=>by
  have h1:=argT_le fs true (cs.drop 1);have h2:=head_sum 12 cs;rw [argT,sumT];simp only [List.length_append,List.length_cons,List.length_nil];split<;>simp only [List.length_cons,List.length_nil]<;>omega
theorem stT_le (op:Int) (nm dst val:Str) (cs:List Str) (ls:List (List Int)) (fs bs:List Str) (hl:∀ l∈ls,∀ n∈l,InI n):(stT op nm dst val cs ls fs bs).length≤50+nm.length+dst.length+val.length+sumT 12 cs+sumL ls+sumT 6 fs+sumT 5 bs:=by
 have h1:=ifT_le cs [73,70,32] bs (by decide);have h2:=caseT_le ls bs hl;have h3:=argT_le fs false cs;have h4:=three_sum 12 cs;have h5:=head_sum 5 bs;unfold stT;by_cases e1:op=1
 ·rw [if_pos e1]
  simp only [List.length_append,List.length_cons,List.length_nil];omega
 rw [if_neg e1];by_cases e2:op=2
 ·rw [if_pos e2]
  simp only [List.length_append,List.length_cons,List.length_nil];omega
 rw [if_neg e2];by_cases e3:op=3
 ·rw [if_pos e3]
  simp only [List.length_append,List.length_cons,List.length_nil];omega
 rw [if_neg e3];by_cases e4:op=4
 ·rw [if_pos e4]
  simp only [List.length_append,List.length_cons,List.length_nil];omega
 rw [if_neg e4];by_cases e5:op=5
 ·rw [if_pos e5]
  simp only [List.length_append,List.length_cons,List.length_nil];omega
 rw [if_neg e5];by_cases e6:op=6
 ·rw [if_pos e6]
  simp only [List.length_append,List.length_cons,List.length_nil];omega
 rw [if_neg e6];by_cases e7:op=7
 ·rw [if_pos e7]
  simp only [List.length_cons,List.length_nil];omega
 rw [if_neg e7];by_cases e8:op=8
 ·rw [if_pos e8]
  simp only [List.length_cons,List.length_nil];omega
 rw [if_neg e8];simp only [List.length_append,List.length_cons,List.length_nil];omega
theorem sumT_exs (k:Nat):∀ L:List Ex,sumT k (exsS L)=k*L.length+sumE L
 | []=>rfl
 | x::l=>by
  have:=sumT_exs k l;rw [exsS,sumT,sumE,List.length_cons,Nat.mul_succ];omega
section
variable {H:Type} {enc:TypeId×Value→H} {w:World} {base:Nat} {held:Bool}
theorem strs_of {K fuel:Nat} {cs:List Value} {x:DataW H×List MemPlace} (h:DataW.trod enc Tryz.prog w base (fun _=>true) held fuel 46 cs=some x) (hK:Rows.uptoBulk x.1≤K) :
  ∃ (s:Sl) (L:List Str),cs=[s.v]∧RS tC1 1 w w.heap.size s L∧L.length+1≤Rows.uptoBulk x.1∧sumT 6 L≤6*Rows.uptoBulk x.1:=by
 obtain ⟨s,L,ds,e,hrow,hall,hds⟩:=row_of (en:=tC1) (z:=1) (Q:=fun (t:Str) (d:DataW H)=>t.length+1≤Rows.uptoBulk d) (K:=K) tC1_len (by omega) Tryz.underlying46 cellsS (fun fuel cs y h hy=>by
  obtain ⟨t,e,f,_⟩:=DataW.trod_string Tryz.underlying9 h;refine ⟨t.data.toList,by rw [e,tC1,sv_of],?_⟩;rw [f];simp [Rows.uptoBulk]) h hK
 have key:∀ (L:List Str) (ds:List (DataW H)),All2 (fun (t:Str) (d:DataW H)=>t.length+1≤Rows.uptoBulk d) L ds→L.length≤Rows.uptoBulkAll ds∧sumT 6 L≤6*Rows.uptoBulkAll ds:=by
  intro L;induction L with
  | nil=>intro ds _;exact ⟨Nat.zero_le _,Nat.zero_le _⟩
  | cons t L ih=>
   intro ds h;cases ds with
   | nil=>exact absurd h (by intro h;exact h)
   | cons d ds=>
    have h1:=h.1;obtain ⟨h2,h3⟩:=ih ds h.2;rw [List.length_cons,sumT,Rows.uptoBulkAll];omega
 obtain ⟨k1,k2⟩:=key L ds hall;exact ⟨s,L,e,hrow,by omega,by omega⟩
theorem ints_of {K fuel:Nat} {cs:List Value} {x:DataW H×List MemPlace} (h:DataW.trod enc Tryz.prog w base (fun _=>true) held fuel 104 cs=some x) (hK:Rows.uptoBulk x.1≤K) :
  ∃ (s:Sl) (L:List Int),cs=[s.v]∧RS iC 1 w w.heap.size s L∧(∀ n∈L,InI n)∧L.length+1≤Rows.uptoBulk x.1:=by
 obtain ⟨s,L,ds,e,hrow,hall,hds⟩:=row_of (en:=iC) (z:=1) (Q:=fun (n:Int) (d:DataW H)=>InI n) (K:=K) iC_len (by omega) Tryz.underlying104 cells64 (fun fuel cs y h hy=>by
  obtain ⟨n,e,f,hw⟩:=DataW.trod_int Tryz.underlying2 h;exact ⟨n,by rw [e,iC],wf64 hw⟩) h hK
 have key:∀ (L:List Int) (ds:List (DataW H)),All2 (fun (n:Int) (d:DataW H)=>InI n) L ds→(∀ n∈L,InI n)∧L.length≤Rows.uptoBulkAll ds:=by
  intro L;induction L with
  | nil=>intro ds _;exact ⟨(fun n hn=>by cases hn),Nat.zero_le _⟩
  | cons t L ih=>
   intro ds h;cases ds with
   | nil=>exact absurd h (by intro h;exact h)
   | cons d ds=>
    obtain ⟨h2,h3⟩:=ih ds h.2;have:=bulk_pos d;refine ⟨fun n hn=>?_,?_⟩
    ·rcases List.mem_cons.1 hn with rfl|hn
     ·exact h.1
     ·exact h2 n hn
    ·rw [List.length_cons,Rows.uptoBulkAll]
     omega
 obtain ⟨k1,k2⟩:=key L ds hall;exact ⟨s,L,e,hrow,k1,by omega⟩
theorem cellsLI:Tryz.prog.cellsOf 104=1:=by kernel_rfl
theorem cellsLS:Tryz.prog.cellsOf 23=1:=by kernel_rfl
theorem cellsSt:Tryz.prog.cellsOf 49=19:=by kernel_rfl
instance:Inhabited Sl:=⟨⟨none,0,0⟩⟩
instance:Inhabited SH:=⟨⟨0,[],default,default,default,default,default,default,0⟩⟩
theorem labs_of {K fuel:Nat} {cs:List Value} {x:DataW H×List MemPlace} (h:DataW.trod enc Tryz.prog w base (fun _=>true) held fuel 45 cs=some x) (hK:Rows.uptoBulk x.1≤K) :
  ∃ (s:Sl) (HL:List Sl) (L:List (List Int)),cs=[s.v]∧RS slC 1 w w.heap.size s HL∧LabsAt w w.heap.size L HL∧(∀ l∈L,∀ n∈l,InI n)∧wL L+1≤Rows.uptoBulk x.1∧sumL L≤24*Rows.uptoBulk x.1:=by
 obtain ⟨s,HL,ds,e,hrow,hall,hds⟩:=row_of (en:=slC) (z:=1) (Q:=fun (s:Sl) (d:DataW H)=>∃ L:List Int,RS iC 1 w w.heap.size s L∧(∀ n∈L,InI n)∧L.length+1≤Rows.uptoBulk d) (K:=K) tr.slC_len (by omega) Tryz.underlying45 cellsLI (fun fuel cs y h hy=>by
  obtain ⟨s,L,e,a,b,c⟩:=ints_of h (Nat.le_refl _);exact ⟨s,e,L,a,b,c⟩) h hK
 have key:∀ (HL:List Sl) (ds:List (DataW H)),All2 (fun (s:Sl) (d:DataW H)=>∃ L:List Int,RS iC 1 w w.heap.size s L∧(∀ n∈L,InI n)∧L.length+1≤Rows.uptoBulk d) HL ds→∃ L:List (List Int),LabsAt w w.heap.size L HL∧(∀ l∈L,∀ n∈l,InI n)∧wL L≤Rows.uptoBulkAll ds∧sumL L≤24*Rows.uptoBulkAll ds:=by
  intro HL;induction HL with
  | nil=>intro ds _;exact ⟨[],rfl,(fun l hl=>by cases hl),Nat.zero_le _,Nat.zero_le _⟩
  | cons t HL ih=>
   intro ds h;cases ds with
   | nil=>exact absurd h (by intro h;exact h)
   | cons d ds=>
    obtain ⟨⟨l,a,b,c⟩,h2⟩:=h;obtain ⟨L,h3,h4,h5,h6⟩:=ih ds h2;refine ⟨l::L,⟨t,HL,rfl,a,h3⟩,fun m hm=>?_,?_,?_⟩
    ·rcases List.mem_cons.1 hm with rfl|hm
     ·exact b
     ·exact h4 m hm
    ·rw [wL,Rows.uptoBulkAll];omega
    ·rw [sumL,Rows.uptoBulkAll];omega
 obtain ⟨L,k1,k2,k3,k4⟩:=key HL ds hall;exact ⟨s,HL,L,e,hrow,k1,k2,by omega,by omega⟩
end
section
variable {H:Type} {enc:TypeId×Value→H} {w:World} {base:Nat} {held:Bool}
def QS (w:World) (h:SH) (d:DataW H):Prop:=∃ x:St,StAt w w.heap.size x h∧rS x∧inS x∧wS x≤Rows.uptoBulk d∧(stS x).length≤100*Rows.uptoBulk d
def QL (w:World) (s:Sl) (d:DataW H):Prop:=∃ L:List St,StL w w.heap.size s L∧rSs L∧inSs L∧wsS L+1≤Rows.uptoBulk d∧(stsS L).length+100≤100*Rows.uptoBulk d
theorem sts_of:∀ {L:List SH} {ds:List (DataW H)},All2 (QS w) L ds→∃ E:List St,StsAt w w.heap.size E L∧rSs E∧inSs E∧wsS E≤Rows.uptoBulkAll ds∧(stsS E).length≤100*Rows.uptoBulkAll ds
 | [],[],_=>⟨[],by rw [StsAt],by rw [rSs];trivial,by rw [inSs];trivial,by rw [wsS];exact Nat.zero_le _,by rw [stsS];exact Nat.zero_le _⟩
 | h::L,d::ds,hq=>by
  obtain ⟨e,a1,a2,a3,a4,a5⟩:=hq.1;obtain ⟨E,b1,b2,b3,b4,b5⟩:=sts_of hq.2;refine ⟨e::E,?_,?_,?_,?_,?_⟩
  ·rw [StsAt];exact ⟨h,L,rfl,a1,b1⟩
  ·rw [rSs];exact ⟨a2,b2⟩
  ·rw [inSs];exact ⟨a3,b3⟩
  ·rw [wsS,Rows.uptoBulkAll];omega
  ·rw [stsS,Rows.uptoBulkAll,List.length_append];omega
 | h::L,[],hq=>absurd hq (by intro h;exact h)
 | [],d::ds,hq=>absurd hq (by intro h;exact h)
theorem blks_of:∀ {L:List Sl} {ds:List (DataW H)},All2 (QL w) L ds→∃ E:List (List St),BlksAt w w.heap.size E L∧rBs E∧inBs E∧wsB E≤Rows.uptoBulkAll ds∧sumT 5 (blksS E)≤100*Rows.uptoBulkAll ds
 | [],[],_=>⟨[],by rw [BlksAt],by rw [rBs];trivial,by rw [inBs];trivial,by rw [wsB];exact Nat.zero_le _,by rw [blksS,sumT];exact Nat.zero_le _⟩
 | h::L,d::ds,hq=>by
  obtain ⟨e,a1,a2,a3,a4,a5⟩:=hq.1;obtain ⟨E,b1,b2,b3,b4,b5⟩:=blks_of hq.2;refine ⟨e::E,?_,?_,?_,?_,?_⟩
  ·rw [BlksAt];exact ⟨h,L,rfl,a1,b1⟩
  ·rw [rBs];exact ⟨a2,b2⟩
  ·rw [inBs];exact ⟨a3,b3⟩
  ·rw [wsB,Rows.uptoBulkAll];omega
  ·rw [blksS,sumT,Rows.uptoBulkAll];omega
 | h::L,[],hq=>absurd hq (by intro h;exact h)
 | [],d::ds,hq=>absurd hq (by intro h;exact h)
theorem nine {α:Type} {l:List α} (h:l.length=9):∃ a b c d e f g i j,l=[a,b,c,d,e,f,g,i,j]:=by
 match l,h with
 | [a,b,c,d,e,f,g,i,j],_=>exact ⟨a,b,c,d,e,f,g,i,j,rfl⟩
theorem nineteen {α:Type} {l:List α} (h:l.length=19):∃ a b c d e f g i j k m n o p q r s t u,l=[a,b,c,d,e,f,g,i,j,k,m,n,o,p,q,r,s,t,u]:=by
 match l,h with
 | [a,b,c,d,e,f,g,i,j,k,m,n,o,p,q,r,s,t,u],_=>exact ⟨a,b,c,d,e,f,g,i,j,k,m,n,o,p,q,r,s,t,u,rfl⟩
theorem cellsLL:Tryz.prog.cellsOf 45=1:=by kernel_rfl
theorem cellsSS:Tryz.prog.cellsOf 46=1:=by kernel_rfl
theorem cellsBB:Tryz.prog.cellsOf 47=1:=by kernel_rfl
theorem exl_of {K fuel:Nat} (hKm:K≤140737488355328) {cs:List Value} {x:DataW H×List MemPlace} (h:DataW.trod enc Tryz.prog w base (fun _=>true) held fuel 42 cs=some x) (hK:Rows.uptoBulk x.1≤K) :
  ∃ (s:Sl) (L:List Ex),cs=[s.v]∧ExL w w.heap.size s L∧rEs L∧wsE L+1≤Rows.uptoBulk x.1∧sumE L≤50*Rows.uptoBulk x.1:=by
 obtain ⟨s,L,ds,e,hrow,hall,hds⟩:=row_of (en:=eC) (z:=6) (Q:=QE w) (K:=K) eC_len (by omega) Tryz.underlying42 cellsE (fun fuel cs y h hy=>expr_of K hKm fuel cs y h hy) h hK;obtain ⟨E,b1,b2,b3,b4⟩:=exs_of hall;exact ⟨s,E,e,⟨L,hrow,b1⟩,b2,by omega,by omega⟩
theorem stmt_of:∀ (K:Nat),K≤140737488355328→∀ (fuel:Nat) (cs:List Value) (x:DataW H×List MemPlace),DataW.trod enc Tryz.prog w base (fun _=>true) held fuel 49 cs=some x→Rows.uptoBulk x.1<K→∃ h,cs=sC h∧QS w h x.1
 | 0,_,_,_,_,_,h=>absurd h (by omega)
 | K+1,hKm,fuel,cs,x,h,hK=>by
  obtain ⟨xs,n,_,hx,hl,hs,hf⟩:=DataW.trod_struct Tryz.underlying49 h;rw [cellsSt] at hl;obtain ⟨c0,c1,c2,c3,c4,c5,c6,c7,c8,c9,c10,c11,c12,c13,c14,c15,c16,c17,c18,rfl⟩:=nineteen hl;obtain ⟨y0,y1,y2,y3,y4,y5,y6,y7,y8,rfl⟩:=nine (l:=xs) (by rw [hs];rfl);have h0:=hf 0 _ rfl;have h1:=hf 1 _ rfl;have h2:=hf 2 _ rfl;have h3:=hf 3 _ rfl;have h4:=hf 4 _ rfl;have h5:=hf 5 _ rfl;have h6:=hf 6 _ rfl;have h7:=hf 7 _ rfl;have h8:=hf 8 _ rfl;obtain ⟨op,e0,f0,_⟩:=DataW.trod_int (x:=y0) Tryz.underlying3 h0;obtain ⟨nm,e1,f1,m1⟩:=DataW.trod_string (x:=y1) Tryz.underlying9 h1;obtain ⟨ln,e8,f8,_⟩:=DataW.trod_int (x:=y8) Tryz.underlying3 h8;have hb:Rows.uptoBulk x.1=1+((nm.data.toList.length+1)+(Rows.uptoBulk y2.1+(Rows.uptoBulk y3.1+(Rows.uptoBulk y4.1+(Rows.uptoBulk y5.1+(Rows.uptoBulk y6.1+(Rows.uptoBulk y7.1+(1+0))))))))+1:=by
   rw [hx];simp only [List.map_cons,List.map_nil,Rows.uptoBulk,Rows.uptoBulkAll,f0,f1,f8]
  obtain ⟨hd,e2,d,a1,a2,a3,a4⟩:=expr_of K (by omega) _ _ y2 h2 (by omega);obtain ⟨hv,e3,v,b1,b2,b3,b4⟩:=expr_of K (by omega) _ _ y3 h3 (by omega);obtain ⟨sc,cs,e4,g1,g2,g3,g4⟩:=exl_of (K:=K) (x:=y4) (by omega) h4 (by omega);obtain ⟨sl,HL,ls,e5,i1,i2,i3,i4,i5⟩:=labs_of (K:=K) (x:=y5) h5 (by omega);obtain ⟨sf,fs,e6,j1,j2,j3⟩:=strs_of (K:=K) (x:=y6) h6 (by omega);obtain ⟨sb,BH,ds,e7,hrow,hall,hds⟩:=row_of (x:=y7) (en:=slC) (z:=1) (Q:=QL w) (K:=K) tr.slC_len (by omega) Tryz.underlying47 cellsLS (fun fuel cs y h hy=>by
   obtain ⟨s,L,ds,e,hrow,hall,hds⟩:=row_of (en:=sC) (z:=19) (Q:=QS w) (K:=K) sC_len (by omega) Tryz.underlying23 cellsSt (fun fuel cs y h hy=>stmt_of K (by omega) fuel cs y h hy) h (by omega);obtain ⟨E,q1,q2,q3,q4,q5⟩:=sts_of hall;exact ⟨s,e,E,⟨L,hrow,q1⟩,q2,q3,by omega,by omega⟩) h7 (by omega)
  obtain ⟨bs,k1,k2,k3,k4,k5⟩:=blks_of hall;simp [cellsI] at e0;simp [cellsS] at e1;simp [cellsE,eC] at e2 e3;simp [cellsL] at e4;simp [cellsLL] at e5;simp [cellsSS] at e6;simp [cellsBB] at e7;simp [cellsI] at e8;obtain ⟨e20,e21,e22,e23,e24,e25⟩:=e2;obtain ⟨e30,e31,e32,e33,e34,e35⟩:=e3;refine ⟨⟨op,nm.data.toList,hd,hv,sc,sl,sf,sb,ln⟩,?_,.mk op nm.data.toList d v cs ls fs bs ln,?_,?_,?_,?_,?_⟩
  ·rw [sC,e0,e1,e20,e21,e22,e23,e24,e25,e30,e31,e32,e33,e34,e35,e4,e5,e6,e7,e8,←sv_of]
  ·rw [StAt];exact ⟨rfl,rfl,rfl,a1,b1,g1,⟨HL,i1,i2⟩,j1,BH,hrow,k1⟩
  ·rw [rS];exact ⟨a2,b2,g2,k2⟩
  ·rw [inS];exact ⟨i3,k3⟩
  ·rw [wS];omega
  ·have q:=stT_le op nm.data.toList (exS d) (exS v) (exsS cs) ls fs (blksS bs) i3
   have q2:=sumT_exs 12 cs;have q3:=wsE_len cs;rw [stS];omega
end
theorem kindS_le (n:Int):(kindS n).length≤20:=by
 by_cases h:n∈kindL
 ·have h2:kindL.all (fun n=>decide ((kindS n).length≤20))=true:=by kernel_rfl
  rw [List.all_eq_true] at h2;simpa using h2 n h
 ·rw [(kind_none h).2.1]
  decide
theorem secS_le (n:Int):(secS n).length≤10:=by
 unfold secS;repeat' split
 all_goals decide
theorem plainS_le (n:Int):(plainS n).length≤4:=by
 unfold plainS;repeat' split
 all_goals decide
theorem typeS_le (v:Va) (h1:InI v.lo) (h2:InI v.hi) (h3:InI v.init):(typeS v).length≤60:=by
 have a1:=num_len h1;have a2:=num_len h2;have a3:=num_len h3;have a4:=plainS_le v.type;have a5:=kindS_le v.type;have a6:=truthS_le v.init;unfold typeS;repeat' split
 all_goals
  try simp only [List.length_append,List.length_cons,List.length_nil]
  omega
theorem vaS_le (v:Va) (h1:InI v.lo) (h2:InI v.hi) (h3:InI v.init):(vaS v).length≤84+v.name.length:=by
 have a1:=typeS_le v h1 h2 h3;have a2:=secS_le v.sect;unfold vaS;simp only [List.length_append,List.length_cons,List.length_nil];omega
section
variable {H:Type} {enc:TypeId×Value→H} {w:World} {base:Nat} {held:Bool}
instance:Inhabited Va:=⟨⟨[],0,0,false,0,0,0,0⟩⟩
def QV (v:Va) (d:DataW H):Prop:=InI v.init∧(vaS v).length≤100*Rows.uptoBulk d
theorem eight {α:Type} {l:List α} (h:l.length=8):∃ a b c d e f g i,l=[a,b,c,d,e,f,g,i]:=by
 match l,h with
 | [a,b,c,d,e,f,g,i],_=>exact ⟨a,b,c,d,e,f,g,i,rfl⟩
theorem three {α:Type} {l:List α} (h:l.length=3):∃ a b c,l=[a,b,c]:=by
 match l,h with
 | [a,b,c],_=>exact ⟨a,b,c,rfl⟩
theorem cellsV:Tryz.prog.cellsOf 60=8:=by kernel_rfl
theorem cellsB:Tryz.prog.cellsOf 4=1:=by kernel_rfl
theorem cellsG:Tryz.prog.cellsOf 25=3:=by kernel_rfl
theorem cellsVV:Tryz.prog.cellsOf 22=1:=by kernel_rfl
theorem var_of (fuel:Nat) (cs:List Value) (x:DataW H×List MemPlace) (h:DataW.trod enc Tryz.prog w base (fun _=>true) held fuel 60 cs=some x):∃ v,cs=vC v∧QV v x.1:=by
 obtain ⟨xs,n,_,hx,hl,hs,hf⟩:=DataW.trod_struct Tryz.underlying60 h;rw [cellsV] at hl;obtain ⟨c0,c1,c2,c3,c4,c5,c6,c7,rfl⟩:=eight hl;obtain ⟨y0,y1,y2,y3,y4,y5,y6,y7,rfl⟩:=eight (l:=xs) (by rw [hs];rfl);have h0:=hf 0 _ rfl;have h1:=hf 1 _ rfl;have h2:=hf 2 _ rfl;have h3:=hf 3 _ rfl;have h4:=hf 4 _ rfl;have h5:=hf 5 _ rfl;have h6:=hf 6 _ rfl;have h7:=hf 7 _ rfl;obtain ⟨nm,e0,f0,m0⟩:=DataW.trod_string (x:=y0) Tryz.underlying9 h0;obtain ⟨ty,e1,f1,_⟩:=DataW.trod_int (x:=y1) Tryz.underlying3 h1;obtain ⟨se,e2,f2,_⟩:=DataW.trod_int (x:=y2) Tryz.underlying3 h2;obtain ⟨ar,e3,f3⟩:=DataW.trod_bool (x:=y3) Tryz.underlying4 h3;obtain ⟨lo,e4,f4,w4⟩:=DataW.trod_int (x:=y4) Tryz.underlying2 h4;obtain ⟨hi,e5,f5,w5⟩:=DataW.trod_int (x:=y5) Tryz.underlying2 h5;obtain ⟨ini,e6,f6,w6⟩:=DataW.trod_int (x:=y6) Tryz.underlying2 h6;obtain ⟨ln,e7,f7,_⟩:=DataW.trod_int (x:=y7) Tryz.underlying3 h7;have hb:nm.data.toList.length+9≤Rows.uptoBulk x.1:=by
  rw [hx];simp only [List.map_cons,List.map_nil,Rows.uptoBulk,Rows.uptoBulkAll,f0,f1,f2,f3,f4,f5,f6,f7];omega
 simp [cellsS] at e0;simp [cellsI] at e1;simp [cellsI] at e2;simp [cellsB] at e3;simp [cells64] at e4;simp [cells64] at e5;simp [cells64] at e6;simp [cellsI] at e7;subst e0 e1 e2 e3 e4 e5 e6 e7;refine ⟨⟨nm.data.toList,ty,se,ar,lo,hi,ini,ln⟩,?_,wf64 w6,?_⟩
 ·rw [vC,←sv_of]
 ·have:=vaS_le ⟨nm.data.toList,ty,se,ar,lo,hi,ini,ln⟩ (wf64 w4) (wf64 w5) (wf64 w6)
  simp only at this;omega
theorem vas_of:∀ {L:List Va} {ds:List (DataW H)},All2 QV L ds→(∀ v∈L,InI v.init)∧L.length≤Rows.uptoBulkAll ds∧(vasS L).length≤100*Rows.uptoBulkAll ds
 | [],[],_=>⟨(fun v hv=>by cases hv),Nat.zero_le _,Nat.zero_le _⟩
 | v::L,d::ds,hq=>by
  obtain ⟨a1,a2⟩:=hq.1;obtain ⟨b1,b2,b3⟩:=vas_of hq.2;have:=bulk_pos d;refine ⟨fun u hu=>?_,?_,?_⟩
  ·rcases List.mem_cons.1 hu with rfl|hu
   ·exact a1
   ·exact b1 u hu
  ·rw [List.length_cons,Rows.uptoBulkAll];omega
  ·rw [vasS,Rows.uptoBulkAll,List.length_append];omega
 | h::L,[],hq=>absurd hq (by intro h;exact h)
 | [],d::ds,hq=>absurd hq (by intro h;exact h)
theorem prog_of {K fuel:Nat} (hKm:K≤140737488355328) {cs:List Value} {x:DataW H×List MemPlace} (h:DataW.trod enc Tryz.prog w base (fun _=>true) held fuel 25 cs=some x) (hK:Rows.uptoBulk x.1≤K) :
  ∃ (g:GH) (p:Pg),cs=gC g∧PgAt w w.heap.size p g∧inP p∧rSs p.body∧wsS p.body≤Rows.uptoBulk x.1∧p.vars.length≤Rows.uptoBulk x.1∧(pgS p).length≤100*Rows.uptoBulk x.1:=by
 obtain ⟨xs,n,_,hx,hl,hs,hf⟩:=DataW.trod_struct Tryz.underlying25 h;rw [cellsG] at hl;obtain ⟨c0,c1,c2,rfl⟩:=three hl;obtain ⟨y0,y1,y2,rfl⟩:=three (l:=xs) (by rw [hs];rfl);have h0:=hf 0 _ rfl;have h1:=hf 1 _ rfl;have h2:=hf 2 _ rfl;obtain ⟨nm,e0,f0,m0⟩:=DataW.trod_string (x:=y0) Tryz.underlying9 h0;have hb:Rows.uptoBulk x.1=(nm.data.toList.length+1)+(Rows.uptoBulk y1.1+(Rows.uptoBulk y2.1+0))+1:=by
  rw [hx];simp only [List.map_cons,List.map_nil,Rows.uptoBulk,Rows.uptoBulkAll,f0]
 obtain ⟨sv1,vs,dv,e1,hrow1,hall1,hds1⟩:=row_of (x:=y1) (en:=vC) (z:=8) (Q:=QV) (K:=K) vC_len (by omega) Tryz.underlying22 cellsV (fun fuel cs y h hy=>var_of fuel cs y h) h1 (by omega);obtain ⟨s2,L2,d2,e2,hrow2,hall2,hds2⟩:=row_of (x:=y2) (en:=sC) (z:=19) (Q:=QS w) (K:=K) sC_len (by omega) Tryz.underlying23 cellsSt (fun fuel cs y h hy=>stmt_of K hKm fuel cs y h hy) h2 (by omega);obtain ⟨a1,a2,a3⟩:=vas_of hall1;obtain ⟨B,q1,q2,q3,q4,q5⟩:=sts_of hall2;simp [cellsS] at e0;simp [cellsVV] at e1;simp [cellsLS] at e2;subst e0 e1 e2;refine ⟨⟨nm.data.toList,sv1,s2⟩,⟨nm.data.toList,vs,B⟩,by rw [gC,←sv_of],⟨rfl,hrow1,L2,hrow2,q1⟩,⟨a1,q3⟩,q2,by show wsS B≤_;omega,by show vs.length≤_;omega,?_⟩
 show ([80,82,79,71,82,65,77,32]++nm.data.toList++[10]++vasS vs++stsS B++[69,78,68,95,80,82,79,71,82,65,77,10]).length≤_
 simp only [List.length_append,List.length_cons,List.length_nil];have:=bulk_pos y1.1;omega
end
end sh
namespace showBack
open ChangeShapes WideShapes ChangeAt RowKit
theorem own:ownKnob Tryz.prog.godebug=none:=by kernel_rfl
theorem laidOut:laidOutB Tryz.prog=true:=by kernel_rfl
theorem of_laid {W:World} (h:laidMetH Tryz.prog Rows.showBackUptoRow.laid W):Laid W:=by
 have h : laidMetH Tryz.prog [("math/bits.deBruijn32tab", Rows.laid_math_bits_deBruijn32tab), ("math/bits.deBruijn64tab", Rows.laid_math_bits_deBruijn64tab), ("internal/strconv.uint64pow10", Rows.laid_internal_strconv_uint64pow10)] W := h;rw [MakeChecks.laidMetH_plain _ _ _ (by kernel_rfl)] at h;obtain ⟨ps, ⟨g0, t0, cs0, f0, p0, q0, hg0, ht0, hv0, hd0, ⟨g1, t1, cs1, f1, p1, q1, hg1, ht1, hv1, hd1, ⟨g2, t2, cs2, f2, p2, q2, hg2, ht2, hv2, hd2, _, _⟩, _⟩, _⟩, _, _⟩ := h;obtain rfl := Option.some.inj (gPow.symm.trans hg2);obtain rfl := Option.some.inj (tPow.symm.trans ht2);rw [dPow] at hd2;unfold Laid Lib.TabIs;rw [hv2, ← Lib.cells_of_tab Tryz.underlying193 Tryz.underlying88 (by kernel_rfl) (by kernel_rfl) hd2]
theorem contract (H:Type) (enc:TypeId×Value→H) (W:World) (base:Nat) (args:Array Value) (ds gs:List (DataW H)) (before:List MemPlace)
  (hval0:∀ (j:Nat) t v,Tryz.f4.params[j]?=some t→args[j]?=some v→Value.okWide Tryz.prog W .any base t v)
  (hW:DataW.Whole enc Tryz.prog Tryz.f4.params.toList Rows.showBackSpec.vars false W args.toList ds gs before) (hk:Rows.uptoBulkAll (ds++gs)≤1048576) (hL:Laid W) (hM:tk.MaxL W) :
  Calls Tryz.prog 4 args W fun e W'=>∃ v,e=.returned v∧Rows.showBackSpec.post enc Tryz.prog Tryz.f4 false true false false W args v W':=by
 have hval:∀ (j:Nat) t v,Tryz.f4.params[j]?=some t→args[j]?=some v→Value.okWide Tryz.prog W .any base t v:=hval0;have hW':=hW;obtain ⟨p,q,hA0,hV,rfl,hfz,hnd⟩:=hW;have hA:DataW.TrodAll enc Tryz.prog W 0 (fun _=>true) true Tryz.f4.params.toList args.toList ds p:=hA0;rw [Tryz.params4] at hA hval;obtain ⟨v0,vs0,d0,ds0,p0,q0,hargs,rfl,rfl,h0,r0⟩:=trodAll_cons hA;obtain ⟨rfl,rfl,rfl⟩:=trodAll_nil r0;obtain rfl:args=#[v0]:=by cases args;simp_all
 obtain ⟨rfl,rfl⟩:=trodVars_none hV;obtain ⟨cs0,rfl,_⟩:=okWide_struct Tryz.underlying25 (hval 0 25 v0 rfl rfl);have k0:=h0;have lt0:∀ x∈p0,x.block<W.heap.size:=by obtain ⟨m,hm⟩:=k0;exact DataW.trod_lt m _ _ _ hm
 obtain ⟨fuel0,hf0⟩:=h0;have hb:Rows.uptoBulk d0≤1048576:=by
  simp only [List.cons_append,List.nil_append,Rows.uptoBulkAll] at hk;omega
 obtain ⟨g,pg,e0,hp,hin,hr,hw,hv,hl⟩:=sh.prog_of (K:=1048576) (by decide) hf0 hb;obtain rfl:cs0=(tr.gC g).toArray:=Array.toList_inj.mp (by simpa [Value.cells] using e0);clear hA0 hval0;have hl2:(sh.pgS pg).length≤140737488355328:=by
  have:Rows.uptoBulk ((d0,p0):DataW H×List MemPlace).1≤1048576:=hb;omega
 have hw2:sh.wsS pg.body≤1099511627776:=by
  have:Rows.uptoBulk ((d0,p0):DataW H×List MemPlace).1≤1048576:=hb;omega
 have hv2:pg.vars.length≤1099511627776:=by
  have:Rows.uptoBulk ((d0,p0):DataW H×List MemPlace).1≤1048576:=hb;omega
 refine (sh.back_walk hM hL hp hin hr hw2 hv2 (fun _=>hl2)).mono fun e W' ⟨he,bel⟩=>?_
 subst he;exact ⟨_,rfl,_,_,_,[],_,[],hW',trodAll_mk1 (shut_bool Tryz.underlying4 _),(trodAll_cons_mk (Below.trod laidOut (by kernel_rfl) (of_decide_eq_true (by kernel_rfl)) k0 bel lt0) trodAll_mk0),rfl,bel.frame _,fun h=>by cases h⟩
theorem door_met (os:Os) (args:Array Value):laidMetH Tryz.prog Rows.showBackUptoRow.laid ((World.doorLaid Tryz.prog 400 os).forCall (fun _ _=>0) ⟨#[],args,[]⟩).memory:=
 laidMetH_of_parts3 (fuel:=8) (laidMet_of_run' 8 (by kernel_rfl) (by kernel_rfl)) (by kernel_rfl) (by kernel_rfl)
theorem reads (os:Os) {H:Type} (enc:TypeId×Value→H):∃ places,DataW.whole enc Tryz.prog ((World.doorLaid Tryz.prog 400 os).forCall (fun _ _=>0) ⟨#[],#[.agg #[.string ⟨#[]⟩,.slice none 0 0,.slice none 0 0]],[]⟩).memory Tryz.f4.params.toList Rows.showBackSpec.vars false #[Value.agg #[.string ⟨#[]⟩,.slice none 0 0,.slice none 0 0]].toList 8=some ([.agg [.lit (.string []),.nil,.nil]],[],places):=
 ⟨[],by kernel_rfl⟩
theorem lifted (os:Os) (started:os.Started) (H:Type) (enc:TypeId×Value→H) (F:Stop.Interp) :
  ReturnsInHanded {} Tryz.checked os 4 .any ((Rows.OpenSpec.upto Rows.showBackSpec).preRow enc Tryz.prog Tryz.f4 Rows.showBackUptoRow.domain false Rows.showBackUptoRow.laid) (((Rows.OpenSpec.upto Rows.showBackSpec).at F).post enc Tryz.prog Tryz.f4 false true false false):=by
 obtain ⟨places,hx⟩:=reads os enc;refine returnsInHanded_of_row (C:=Tryz.checked) (s:=Rows.OpenSpec.upto Rows.showBackSpec) own started (by kernel_rfl) Tryz.func4
  (witness_row_at (enc:=enc) (C:=Tryz.checked) false (World.doorLaid Tryz.prog 400 os) #[.agg #[.string ⟨#[]⟩,.slice none 0 0,.slice none 0 0]] rfl (by kernel_rfl) (by kernel_rfl) (by kernel_rfl)
   (OpenSpec.preRow_of_cond 8 hx (by kernel_rfl) (fun k hk=>by cases hk;kernel_rfl) (by kernel_rfl) (door_met os _))) ?_
 intro W base args ds gs before hval hW _ hcond _ hL hsh _;exact contract H enc W base args ds gs before hval hW (of_decide_eq_true (hcond _ rfl)) (of_laid hL) (tk.maxl_of hsh)
theorem over:Rows.showBackUptoRow.holds Tryz.pinned (Rows.OpenSpec.upto Rows.showBackSpec):=
 OpenClaim.holds_of_cond 4 Tryz.f4 rfl rfl rfl rfl rfl rfl rfl ⟨rfl,rfl,rfl,rfl,rfl⟩ rfl rfl rfl rfl rfl (by kernel_rfl) Tryz.func4 (by kernel_rfl)
  (of_decide_eq_true (by kernel_rfl)) (by unfold Func.isWrapper;first|(rw [if_pos (by decide +kernel)];kernel_rfl)|(rw [if_neg (by decide +kernel)];exact ⟨rfl,rfl⟩))
  (fun os started H enc _ F=>by rw [OpenClaim.pre_eq_preRow];exact lifted os started H enc F)
theorem proved:Rows.ShowBackUptoCardSaid:=
 Claim7.holds_tied_plain_at .later [] _ _ _ _ over (fun _ h=>by cases h) (by kernel_rfl) (fun _ h=>by cases h) showBackUpto_row_tie rfl ⟨rfl,rfl⟩ (by kernel_rfl) rfl
  (fun f fn hf hfn=>by
   obtain rfl : f = 4 := Option.some.inj ((show Tryz.prog.funcNamed "servitor/servitorlaw19.ShowBack" = some 4 by kernel_rfl).symm.trans hf) |>.symm;obtain rfl : fn = Tryz.f4 := (Option.some.inj (Tryz.func4.symm.trans hfn)).symm;exact ⟨by kernel_rfl, fun j t ht => by
    rw [Tryz.params4] at ht;have hm:t∈[25]:=by simpa using Array.mem_of_getElem? ht
    have hall:([25].all fun u=>!Tryz.prog.wantsStandIn u)=true:=by kernel_rfl
    exact (show Tryz.prog.wantsStandIn t=false by simpa using List.all_eq_true.1 hall t hm)⟩)
  (by kernel_rfl)
end showBack
end Go.Proofs.YtdefgghhkknnpaaGreatDoor

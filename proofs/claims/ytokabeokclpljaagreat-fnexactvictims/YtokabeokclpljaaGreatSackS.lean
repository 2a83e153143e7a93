/-
  The leaves that starve, in order: what the model's Starving answers; a walk over the dump.
-/
import Derived.Test.YtokabeokclpljaaGreatSackM
import Derived.Test.YtokabeokclpljaaGreatSackN
set_option maxRecDepth 100000
set_option maxHeartbeats 16000000
set_option linter.unusedVariables false
set_option linter.unusedSimpArgs false
namespace Go.Proofs.YtokabeokclpljaaGreat
section
open Go.RowKit Go.Maps
def FSVS (w w1:World) (nm:List UInt8) (ux uy tx ty dx dy:Int) (g n0 cap k gt:Nat) (u7 u8 u9 u18 u19 u28 u33 u34 u35 u36 u37 u38 u39 u40 u41 u42 u43 u44 u45 u46 u47 u48 u49 u50 u51 u52 u53 u54 u55 u56 u57 u58 u59 u60 u61 u62 u63 u64 u65 u66 u67 u68 u69 u70 u71 u72 u73 u74 u75 u76 u77 u78:Value) (b off ql qc:Nat) (aa:Option Addr) (al ac:Nat) (ma:Option Addr) (ml mc:Nat) (ca:Option Addr) (cl cc:Nat) (qs:List Q) (clock epoch next serial:Int) (apps:List Appl) (ms:List Mac) (cs:List Con) (c:Nat) (fs:List Bool) (us:List Nat):Act:={ tmps:=#[sv ⟨some ⟨b,off,none⟩,ql,qc,aa,al,ac,ma,ml,mc,ca,cl,cc⟩ ⟨qs,clock,epoch,next,serial,apps,ms,cs⟩,.pointer (some ⟨w.heap.size,0,none⟩),.slice none 0 0,.slice (some ⟨g,0,none⟩) n0 cap,.pointer (some ⟨gt,0,none⟩),.int .i64 (k:Int),.string (bs nm),mkV (fs.getD 0 false) (.pointer (some ⟨us.getD 0 0,0,none⟩)) u7,mkV (fs.getD 1 false) (.pointer (some ⟨us.getD 1 0,0,none⟩)) u8,u9,.slice (some ⟨w.heap.size+1,0,none⟩) 0 0,.agg #[.slice (some ⟨b,off,none⟩) ql qc,.int .i64 clock,.int .i64 epoch,.int .i64 next,.int .i64 serial,.slice aa al ac,.slice ma ml mc,.slice ca cl cc],rv tx ty,.int .i64 (k:Int),.pointer (some ⟨w.heap.size,0,none⟩),.slice (some ⟨b,off,none⟩) ql qc,.int .i64 (ql:Int),.bool true,u18,u19,.pointer (some ⟨w.heap.size,0,none⟩),.slice (some ⟨b,off,none⟩) ql qc,.int .i64 (k:Int),.pointer (some ⟨b,off+k*4,none⟩),.pointer (some ⟨b,off+k*4,none⟩),.string (bs nm),.agg #[.slice (some ⟨b,off,none⟩) ql qc,.int .i64 clock,.int .i64 epoch,.int .i64 next,.int .i64 serial,.slice aa al ac,.slice ma ml mc,.slice ca cl cc],.string (bs nm),mkV (Nat.ble 1 c) (rv ux uy) u28,.pointer (some ⟨w.heap.size,0,none⟩),.slice (some ⟨b,off,none⟩) ql qc,.string (bs nm),rv tx ty,mkV (Nat.ble 2 c) (rv dx dy) u33,u34,u35,u36,u37,u38,u39,u40,u41,u42,u43,u44,u45,u46,u47,u48,u49,u50,u51,u52,u53,u54,u55,u56,u57,u58,u59,u60,u61,u62,u63,u64,u65,u66,u67,u68,u69,u70,u71,u72,u73,u74,u75,u76,u77,u78,undef],defers:=[] }
def MSVS:Mul:=⟨12,[2,7],[8,9],[10,11],[true,true,false,true,true,true,true,false,false,false,false,false]⟩
def SVT0 (w1:World) (g n0 cap j:Nat) (NC1 NC2:List Value) (nm:List UInt8) (x0 x1 x2 x4 x5 x7 x8 x10 x11 x12 x13 x14 x15 x16 x17 x18 x19 x20 x21 x22 x23 x24 x25 x26 x27 x28 x29 x30 x31 x32 x33 x34 x35 x36 x37 x38 x39 x40 x41 x42 x43 x44 x45 x46 x47 x48 x49 x50 x51 x52 x53 x54 x55 x56 x57 x58 x59 x60 x61 x62 x63 x64 x65 x66 x67 x71 x73 x74 x78 x79:Value) (n:Nat) (lz:Array Bool) (az:Act) (wz:World):Prop:=(n=6∧lz=#[false,true,true,true,false,true,false,false,true,true,true,false,false]∧az = { tmps:=#[x0,x1,x2,.slice (some ⟨g,0,none⟩) n0 cap,x4,x5,.string (bs nm),x7,x8,.int .i64 (j:Int),x10,x11,x12,x13,x14,x15,x16,x17,x18,x19,x20,x21,x22,x23,x24,x25,x26,x27,x28,x29,x30,x31,x32,x33,x34,x35,x36,x37,x38,x39,x40,x41,x42,x43,x44,x45,x46,x47,x48,x49,x50,x51,x52,x53,x54,x55,x56,x57,x58,x59,x60,x61,x62,x63,x64,x65,x66,x67,.slice (some ⟨g,0,none⟩) n0 cap,.int .i64 (j:Int),.slice (some ⟨g,0,none⟩) j cap,x71,.string (bs nm),x73,x74,.slice (some ⟨g,0,none⟩) n0 cap,.int .i64 (j:Int),.slice (some (hiA g cap j 1)) (n0 - j) (cap - j),x78,x79],defers:=[] }∧Kp w1 wz)
def SVT1 (w1:World) (g n0 cap j:Nat) (NC1 NC2:List Value) (nm:List UInt8) (x0 x1 x2 x4 x5 x7 x8 x10 x11 x12 x13 x14 x15 x16 x17 x18 x19 x20 x21 x22 x23 x24 x25 x26 x27 x28 x29 x30 x31 x32 x33 x34 x35 x36 x37 x38 x39 x40 x41 x42 x43 x44 x45 x46 x47 x48 x49 x50 x51 x52 x53 x54 x55 x56 x57 x58 x59 x60 x61 x62 x63 x64 x65 x66 x67 x71 x73 x74 x78 x79:Value) (n:Nat) (lz:Array Bool) (az:Act) (wz:World):Prop:=(∃gb:Nat,n=5∧lz=#[false,true,true,true,false,true,true,false,true,true,true,false,false]∧az = { tmps:=#[x0,x1,x2,.slice (some ⟨g,0,none⟩) n0 cap,x4,x5,.string (bs nm),x7,x8,.int .i64 (j:Int),x10,x11,x12,x13,x14,x15,x16,x17,x18,x19,x20,x21,x22,x23,x24,x25,x26,x27,x28,x29,x30,x31,x32,x33,x34,x35,x36,x37,x38,x39,x40,x41,x42,x43,x44,x45,x46,x47,x48,x49,x50,x51,x52,x53,x54,x55,x56,x57,x58,x59,x60,x61,x62,x63,x64,x65,x66,x67,.slice (some ⟨g,0,none⟩) n0 cap,.int .i64 (j:Int),.slice (some ⟨g,0,none⟩) j cap,x71,.string (bs nm),.slice (some ⟨gb,0,none⟩) 1 1,x74,.slice (some ⟨g,0,none⟩) n0 cap,.int .i64 (j:Int),.slice (some (hiA g cap j 1)) (n0 - j) (cap - j),x78,x79],defers:=[] }∧IBox 9 w1 wz gb #[Value.string (bs nm)]∧Kp w1 wz)
def SVT2 (w1:World) (g n0 cap j:Nat) (NC1 NC2:List Value) (nm:List UInt8) (x0 x1 x2 x4 x5 x7 x8 x10 x11 x12 x13 x14 x15 x16 x17 x18 x19 x20 x21 x22 x23 x24 x25 x26 x27 x28 x29 x30 x31 x32 x33 x34 x35 x36 x37 x38 x39 x40 x41 x42 x43 x44 x45 x46 x47 x48 x49 x50 x51 x52 x53 x54 x55 x56 x57 x58 x59 x60 x61 x62 x63 x64 x65 x66 x67 x71 x73 x74 x78 x79:Value) (n:Nat) (lz:Array Bool) (az:Act) (wz:World):Prop:=(∃g0:Nat,n=5∧lz=#[true,true,true,true,false,true,false,false,true,true,true,false,false]∧az = { tmps:=#[x0,x1,x2,.slice (some ⟨g,0,none⟩) n0 cap,x4,x5,.string (bs nm),x7,x8,.int .i64 (j:Int),x10,x11,x12,x13,x14,x15,x16,x17,x18,x19,x20,x21,x22,x23,x24,x25,x26,x27,x28,x29,x30,x31,x32,x33,x34,x35,x36,x37,x38,x39,x40,x41,x42,x43,x44,x45,x46,x47,x48,x49,x50,x51,x52,x53,x54,x55,x56,x57,x58,x59,x60,x61,x62,x63,x64,x65,x66,.slice (some ⟨g0,0,none⟩) 0 0,.slice (some ⟨g,0,none⟩) n0 cap,.int .i64 (j:Int),.slice (some ⟨g,0,none⟩) j cap,x71,.string (bs nm),x73,x74,.slice (some ⟨g,0,none⟩) n0 cap,.int .i64 (j:Int),.slice (some (hiA g cap j 1)) (n0 - j) (cap - j),x78,x79],defers:=[] }∧IRow 9 1 w1.heap.size wz (.slice (some ⟨g0,0,none⟩) 0 0) 0 []∧Kp w1 wz)
def SVT3 (w1:World) (g n0 cap j:Nat) (NC1 NC2:List Value) (nm:List UInt8) (x0 x1 x2 x4 x5 x7 x8 x10 x11 x12 x13 x14 x15 x16 x17 x18 x19 x20 x21 x22 x23 x24 x25 x26 x27 x28 x29 x30 x31 x32 x33 x34 x35 x36 x37 x38 x39 x40 x41 x42 x43 x44 x45 x46 x47 x48 x49 x50 x51 x52 x53 x54 x55 x56 x57 x58 x59 x60 x61 x62 x63 x64 x65 x66 x67 x71 x73 x74 x78 x79:Value) (n:Nat) (lz:Array Bool) (az:Act) (wz:World):Prop:=(∃g0:Nat,∃gb:Nat,n=4∧lz=#[true,true,true,true,false,true,true,false,true,true,true,false,false]∧az = { tmps:=#[x0,x1,x2,.slice (some ⟨g,0,none⟩) n0 cap,x4,x5,.string (bs nm),x7,x8,.int .i64 (j:Int),x10,x11,x12,x13,x14,x15,x16,x17,x18,x19,x20,x21,x22,x23,x24,x25,x26,x27,x28,x29,x30,x31,x32,x33,x34,x35,x36,x37,x38,x39,x40,x41,x42,x43,x44,x45,x46,x47,x48,x49,x50,x51,x52,x53,x54,x55,x56,x57,x58,x59,x60,x61,x62,x63,x64,x65,x66,.slice (some ⟨g0,0,none⟩) 0 0,.slice (some ⟨g,0,none⟩) n0 cap,.int .i64 (j:Int),.slice (some ⟨g,0,none⟩) j cap,x71,.string (bs nm),.slice (some ⟨gb,0,none⟩) 1 1,x74,.slice (some ⟨g,0,none⟩) n0 cap,.int .i64 (j:Int),.slice (some (hiA g cap j 1)) (n0 - j) (cap - j),x78,x79],defers:=[] }∧IRow 9 1 w1.heap.size wz (.slice (some ⟨g0,0,none⟩) 0 0) 0 []∧IBox 9 w1 wz gb #[Value.string (bs nm)]∧gb≠g0∧Kp w1 wz)
def SVT4 (w1:World) (g n0 cap j:Nat) (NC1 NC2:List Value) (nm:List UInt8) (x0 x1 x2 x4 x5 x7 x8 x10 x11 x12 x13 x14 x15 x16 x17 x18 x19 x20 x21 x22 x23 x24 x25 x26 x27 x28 x29 x30 x31 x32 x33 x34 x35 x36 x37 x38 x39 x40 x41 x42 x43 x44 x45 x46 x47 x48 x49 x50 x51 x52 x53 x54 x55 x56 x57 x58 x59 x60 x61 x62 x63 x64 x65 x66 x67 x71 x73 x74 x78 x79:Value) (n:Nat) (lz:Array Bool) (az:Act) (wz:World):Prop:=(∃g0:Nat,∃v1:Value,n=4∧lz=#[true,true,true,true,true,true,false,false,true,true,true,false,false]∧az = { tmps:=#[x0,x1,x2,.slice (some ⟨g,0,none⟩) n0 cap,x4,x5,.string (bs nm),x7,x8,.int .i64 (j:Int),x10,x11,x12,x13,x14,x15,x16,x17,x18,x19,x20,x21,x22,x23,x24,x25,x26,x27,x28,x29,x30,x31,x32,x33,x34,x35,x36,x37,x38,x39,x40,x41,x42,x43,x44,x45,x46,x47,x48,x49,x50,x51,x52,x53,x54,x55,x56,x57,x58,x59,x60,x61,x62,x63,x64,x65,x66,.slice (some ⟨g0,0,none⟩) 0 0,.slice (some ⟨g,0,none⟩) n0 cap,.int .i64 (j:Int),.slice (some ⟨g,0,none⟩) j cap,v1,.string (bs nm),x73,x74,.slice (some ⟨g,0,none⟩) n0 cap,.int .i64 (j:Int),.slice (some (hiA g cap j 1)) (n0 - j) (cap - j),x78,x79],defers:=[] }∧IRow 9 1 w1.heap.size wz v1 j NC1∧Kp w1 wz)
def SVT5 (w1:World) (g n0 cap j:Nat) (NC1 NC2:List Value) (nm:List UInt8) (x0 x1 x2 x4 x5 x7 x8 x10 x11 x12 x13 x14 x15 x16 x17 x18 x19 x20 x21 x22 x23 x24 x25 x26 x27 x28 x29 x30 x31 x32 x33 x34 x35 x36 x37 x38 x39 x40 x41 x42 x43 x44 x45 x46 x47 x48 x49 x50 x51 x52 x53 x54 x55 x56 x57 x58 x59 x60 x61 x62 x63 x64 x65 x66 x67 x71 x73 x74 x78 x79:Value) (n:Nat) (lz:Array Bool) (az:Act) (wz:World):Prop:=(∃g0:Nat,∃v1:Value,∃gb:Nat,n=3∧lz=#[true,true,true,true,true,true,true,false,true,true,true,false,false]∧az = { tmps:=#[x0,x1,x2,.slice (some ⟨g,0,none⟩) n0 cap,x4,x5,.string (bs nm),x7,x8,.int .i64 (j:Int),x10,x11,x12,x13,x14,x15,x16,x17,x18,x19,x20,x21,x22,x23,x24,x25,x26,x27,x28,x29,x30,x31,x32,x33,x34,x35,x36,x37,x38,x39,x40,x41,x42,x43,x44,x45,x46,x47,x48,x49,x50,x51,x52,x53,x54,x55,x56,x57,x58,x59,x60,x61,x62,x63,x64,x65,x66,.slice (some ⟨g0,0,none⟩) 0 0,.slice (some ⟨g,0,none⟩) n0 cap,.int .i64 (j:Int),.slice (some ⟨g,0,none⟩) j cap,v1,.string (bs nm),.slice (some ⟨gb,0,none⟩) 1 1,x74,.slice (some ⟨g,0,none⟩) n0 cap,.int .i64 (j:Int),.slice (some (hiA g cap j 1)) (n0 - j) (cap - j),x78,x79],defers:=[] }∧IRow 9 1 w1.heap.size wz v1 j NC1∧IBox 9 w1 wz gb #[Value.string (bs nm)]∧Kp w1 wz)
def SVT6 (w1:World) (g n0 cap j:Nat) (NC1 NC2:List Value) (nm:List UInt8) (x0 x1 x2 x4 x5 x7 x8 x10 x11 x12 x13 x14 x15 x16 x17 x18 x19 x20 x21 x22 x23 x24 x25 x26 x27 x28 x29 x30 x31 x32 x33 x34 x35 x36 x37 x38 x39 x40 x41 x42 x43 x44 x45 x46 x47 x48 x49 x50 x51 x52 x53 x54 x55 x56 x57 x58 x59 x60 x61 x62 x63 x64 x65 x66 x67 x71 x73 x74 x78 x79:Value) (n:Nat) (lz:Array Bool) (az:Act) (wz:World):Prop:=(∃g0:Nat,∃v1:Value,∃gb:Nat,∃v2:Value,n=2∧lz=#[true,true,true,true,true,true,true,true,true,true,true,false,false]∧az = { tmps:=#[x0,x1,x2,.slice (some ⟨g,0,none⟩) n0 cap,x4,x5,.string (bs nm),x7,x8,.int .i64 (j:Int),x10,x11,x12,x13,x14,x15,x16,x17,x18,x19,x20,x21,x22,x23,x24,x25,x26,x27,x28,x29,x30,x31,x32,x33,x34,x35,x36,x37,x38,x39,x40,x41,x42,x43,x44,x45,x46,x47,x48,x49,x50,x51,x52,x53,x54,x55,x56,x57,x58,x59,x60,x61,x62,x63,x64,x65,x66,.slice (some ⟨g0,0,none⟩) 0 0,.slice (some ⟨g,0,none⟩) n0 cap,.int .i64 (j:Int),.slice (some ⟨g,0,none⟩) j cap,v1,.string (bs nm),.slice (some ⟨gb,0,none⟩) 1 1,v2,.slice (some ⟨g,0,none⟩) n0 cap,.int .i64 (j:Int),.slice (some (hiA g cap j 1)) (n0 - j) (cap - j),x78,x79],defers:=[] }∧IRow 9 1 w1.heap.size wz v2 (j+1) (NC1++#[Value.string (bs nm)].toList)∧Kp w1 wz)
def SVT7 (w1:World) (g n0 cap j:Nat) (NC1 NC2:List Value) (nm:List UInt8) (x0 x1 x2 x4 x5 x7 x8 x10 x11 x12 x13 x14 x15 x16 x17 x18 x19 x20 x21 x22 x23 x24 x25 x26 x27 x28 x29 x30 x31 x32 x33 x34 x35 x36 x37 x38 x39 x40 x41 x42 x43 x44 x45 x46 x47 x48 x49 x50 x51 x52 x53 x54 x55 x56 x57 x58 x59 x60 x61 x62 x63 x64 x65 x66 x67 x71 x73 x74 x78 x79:Value) (n:Nat) (lz:Array Bool) (az:Act) (wz:World):Prop:=(∃g0:Nat,∃v1:Value,∃gb:Nat,∃v2:Value,∃v3:Value,n=1∧lz=#[true,true,true,true,true,true,true,true,true,true,true,true,false]∧az = { tmps:=#[x0,x1,x2,.slice (some ⟨g,0,none⟩) n0 cap,x4,x5,.string (bs nm),x7,x8,.int .i64 (j:Int),x10,x11,x12,x13,x14,x15,x16,x17,x18,x19,x20,x21,x22,x23,x24,x25,x26,x27,x28,x29,x30,x31,x32,x33,x34,x35,x36,x37,x38,x39,x40,x41,x42,x43,x44,x45,x46,x47,x48,x49,x50,x51,x52,x53,x54,x55,x56,x57,x58,x59,x60,x61,x62,x63,x64,x65,x66,.slice (some ⟨g0,0,none⟩) 0 0,.slice (some ⟨g,0,none⟩) n0 cap,.int .i64 (j:Int),.slice (some ⟨g,0,none⟩) j cap,v1,.string (bs nm),.slice (some ⟨gb,0,none⟩) 1 1,v2,.slice (some ⟨g,0,none⟩) n0 cap,.int .i64 (j:Int),.slice (some (hiA g cap j 1)) (n0 - j) (cap - j),v3,x79],defers:=[] }∧IRow 9 1 w1.heap.size wz v3 (j+1+(n0 - j)) (NC1++#[Value.string (bs nm)].toList++NC2)∧Kp w1 wz)
def SVT8 (w1:World) (g n0 cap j:Nat) (NC1 NC2:List Value) (nm:List UInt8) (x0 x1 x2 x4 x5 x7 x8 x10 x11 x12 x13 x14 x15 x16 x17 x18 x19 x20 x21 x22 x23 x24 x25 x26 x27 x28 x29 x30 x31 x32 x33 x34 x35 x36 x37 x38 x39 x40 x41 x42 x43 x44 x45 x46 x47 x48 x49 x50 x51 x52 x53 x54 x55 x56 x57 x58 x59 x60 x61 x62 x63 x64 x65 x66 x67 x71 x73 x74 x78 x79:Value) (n:Nat) (lz:Array Bool) (az:Act) (wz:World):Prop:=(∃g0:Nat,∃v1:Value,∃gb:Nat,∃v2:Value,∃v3:Value,n=0∧lz=#[true,true,true,true,true,true,true,true,true,true,true,true,true]∧az = { tmps:=#[x0,x1,x2,v3,x4,x5,.string (bs nm),x7,x8,.int .i64 (j:Int),x10,x11,x12,x13,x14,x15,x16,x17,x18,x19,x20,x21,x22,x23,x24,x25,x26,x27,x28,x29,x30,x31,x32,x33,x34,x35,x36,x37,x38,x39,x40,x41,x42,x43,x44,x45,x46,x47,x48,x49,x50,x51,x52,x53,x54,x55,x56,x57,x58,x59,x60,x61,x62,x63,x64,x65,x66,.slice (some ⟨g0,0,none⟩) 0 0,.slice (some ⟨g,0,none⟩) n0 cap,.int .i64 (j:Int),.slice (some ⟨g,0,none⟩) j cap,v1,.string (bs nm),.slice (some ⟨gb,0,none⟩) 1 1,v2,.slice (some ⟨g,0,none⟩) n0 cap,.int .i64 (j:Int),.slice (some (hiA g cap j 1)) (n0 - j) (cap - j),v3,x79],defers:=[] }∧IRow 9 1 w1.heap.size wz v3 (j+1+(n0 - j)) (NC1++#[Value.string (bs nm)].toList++NC2)∧Kp w1 wz)
def SVT (w1:World) (g n0 cap j:Nat) (NC1 NC2:List Value) (nm:List UInt8) (x0 x1 x2 x4 x5 x7 x8 x10 x11 x12 x13 x14 x15 x16 x17 x18 x19 x20 x21 x22 x23 x24 x25 x26 x27 x28 x29 x30 x31 x32 x33 x34 x35 x36 x37 x38 x39 x40 x41 x42 x43 x44 x45 x46 x47 x48 x49 x50 x51 x52 x53 x54 x55 x56 x57 x58 x59 x60 x61 x62 x63 x64 x65 x66 x67 x71 x73 x74 x78 x79:Value) (n:Nat) (lz:Array Bool) (az:Act) (wz:World):Prop:=SVT0 w1 g n0 cap j NC1 NC2 nm x0 x1 x2 x4 x5 x7 x8 x10 x11 x12 x13 x14 x15 x16 x17 x18 x19 x20 x21 x22 x23 x24 x25 x26 x27 x28 x29 x30 x31 x32 x33 x34 x35 x36 x37 x38 x39 x40 x41 x42 x43 x44 x45 x46 x47 x48 x49 x50 x51 x52 x53 x54 x55 x56 x57 x58 x59 x60 x61 x62 x63 x64 x65 x66 x67 x71 x73 x74 x78 x79 n lz az wz∨SVT1 w1 g n0 cap j NC1 NC2 nm x0 x1 x2 x4 x5 x7 x8 x10 x11 x12 x13 x14 x15 x16 x17 x18 x19 x20 x21 x22 x23 x24 x25 x26 x27 x28 x29 x30 x31 x32 x33 x34 x35 x36 x37 x38 x39 x40 x41 x42 x43 x44 x45 x46 x47 x48 x49 x50 x51 x52 x53 x54 x55 x56 x57 x58 x59 x60 x61 x62 x63 x64 x65 x66 x67 x71 x73 x74 x78 x79 n lz az wz∨SVT2 w1 g n0 cap j NC1 NC2 nm x0 x1 x2 x4 x5 x7 x8 x10 x11 x12 x13 x14 x15 x16 x17 x18 x19 x20 x21 x22 x23 x24 x25 x26 x27 x28 x29 x30 x31 x32 x33 x34 x35 x36 x37 x38 x39 x40 x41 x42 x43 x44 x45 x46 x47 x48 x49 x50 x51 x52 x53 x54 x55 x56 x57 x58 x59 x60 x61 x62 x63 x64 x65 x66 x67 x71 x73 x74 x78 x79 n lz az wz∨SVT3 w1 g n0 cap j NC1 NC2 nm x0 x1 x2 x4 x5 x7 x8 x10 x11 x12 x13 x14 x15 x16 x17 x18 x19 x20 x21 x22 x23 x24 x25 x26 x27 x28 x29 x30 x31 x32 x33 x34 x35 x36 x37 x38 x39 x40 x41 x42 x43 x44 x45 x46 x47 x48 x49 x50 x51 x52 x53 x54 x55 x56 x57 x58 x59 x60 x61 x62 x63 x64 x65 x66 x67 x71 x73 x74 x78 x79 n lz az wz∨SVT4 w1 g n0 cap j NC1 NC2 nm x0 x1 x2 x4 x5 x7 x8 x10 x11 x12 x13 x14 x15 x16 x17 x18 x19 x20 x21 x22 x23 x24 x25 x26 x27 x28 x29 x30 x31 x32 x33 x34 x35 x36 x37 x38 x39 x40 x41 x42 x43 x44 x45 x46 x47 x48 x49 x50 x51 x52 x53 x54 x55 x56 x57 x58 x59 x60 x61 x62 x63 x64 x65 x66 x67 x71 x73 x74 x78 x79 n lz az wz∨SVT5 w1 g n0 cap j NC1 NC2 nm x0 x1 x2 x4 x5 x7 x8 x10 x11 x12 x13 x14 x15 x16 x17 x18 x19 x20 x21 x22 x23 x24 x25 x26 x27 x28 x29 x30 x31 x32 x33 x34 x35 x36 x37 x38 x39 x40 x41 x42 x43 x44 x45 x46 x47 x48 x49 x50 x51 x52 x53 x54 x55 x56 x57 x58 x59 x60 x61 x62 x63 x64 x65 x66 x67 x71 x73 x74 x78 x79 n lz az wz∨SVT6 w1 g n0 cap j NC1 NC2 nm x0 x1 x2 x4 x5 x7 x8 x10 x11 x12 x13 x14 x15 x16 x17 x18 x19 x20 x21 x22 x23 x24 x25 x26 x27 x28 x29 x30 x31 x32 x33 x34 x35 x36 x37 x38 x39 x40 x41 x42 x43 x44 x45 x46 x47 x48 x49 x50 x51 x52 x53 x54 x55 x56 x57 x58 x59 x60 x61 x62 x63 x64 x65 x66 x67 x71 x73 x74 x78 x79 n lz az wz∨SVT7 w1 g n0 cap j NC1 NC2 nm x0 x1 x2 x4 x5 x7 x8 x10 x11 x12 x13 x14 x15 x16 x17 x18 x19 x20 x21 x22 x23 x24 x25 x26 x27 x28 x29 x30 x31 x32 x33 x34 x35 x36 x37 x38 x39 x40 x41 x42 x43 x44 x45 x46 x47 x48 x49 x50 x51 x52 x53 x54 x55 x56 x57 x58 x59 x60 x61 x62 x63 x64 x65 x66 x67 x71 x73 x74 x78 x79 n lz az wz∨SVT8 w1 g n0 cap j NC1 NC2 nm x0 x1 x2 x4 x5 x7 x8 x10 x11 x12 x13 x14 x15 x16 x17 x18 x19 x20 x21 x22 x23 x24 x25 x26 x27 x28 x29 x30 x31 x32 x33 x34 x35 x36 x37 x38 x39 x40 x41 x42 x43 x44 x45 x46 x47 x48 x49 x50 x51 x52 x53 x54 x55 x56 x57 x58 x59 x60 x61 x62 x63 x64 x65 x66 x67 x71 x73 x74 x78 x79 n lz az wz
theorem specStarving_any (x:Sls) (s:St) (w:World) (h:SRow w x s) (hf:FitSt s) :
  Calls Tryz.prog 19 #[sv x s] w fun e w'=>∃v,e=.returned v∧Texts w.heap.size w' v (starveV s)∧Below w.heap.size w w':=by
 obtain ⟨i0,hi,hz0,hz1,hz2⟩:=info_parts Tryz.infoS
 have hql:x.ql≤1048576:=h.ql hf
 have hml:x.ml≤1048576:=h.ml hf
 have CT:=hide (fun wx (hb:Below w.heap.size w wx)=>show Calls Tryz.prog 58 #[sv x s] wx (fun e w'=>e=.returned (rv (totalV s).1 (totalV s).2)∧Below wx.heap.size wx w') from specTotal_any x s wx (h.2.2.1.below hb) hml)
 have CD:=hide (fun nm wx (hb:Below w.heap.size w wx)=>show Calls Tryz.prog 60 #[.slice x.qa x.ql x.qc,.string (bs nm),rv (totalV s).1 (totalV s).2] wx (fun e w'=>e=.returned (rv (dueV s nm).1 (dueV s nm).2)∧Below wx.heap.size wx w') from specDueOf_any x.qa x.ql x.qc s.qs nm (totalV s).1 (totalV s).2 wx (h.1.below hb) hql (fun q hq=>(hf.1.2 q hq).1))
 have CU:=hide (fun nm wx (hb:Below w.heap.size w wx)=>specUsedBy_any x s nm wx (h.below hb) hf)
 have CP:=hide (fun nm wx (hb:Below w.heap.size w wx)=>specPending_any x s nm wx (h.below hb) hf)
 have CL:=hide (fun nm wx (hb:Below w.heap.size w wx)=>specLeaf_any x.qa x.ql x.qc s.qs nm wx (h.1.below hb) hql (fun q hq=>(hf.1.2 q hq).1))
 have HPS:=hide (fun nm=>show starveP s nm=(pendingV s nm&&(within (usedByV s nm).1 (usedByV s nm).2 (dueV s nm).1 (dueV s nm).2&&!decide (usedByV s nm=dueV s nm))) from rfl)
 have HLQ:=hide (show s.qs.length=x.ql from h.1.1.symm)
 have HRQ:=hide h.1
 have HNF:=hide (fun k (hk:k<s.qs.length)=>starveF_step s hk)
 have HNE:=hide (fun k (hk:s.qs.length≤k)=>starveF_end s hk)
 have HNL:=hide (fun k=>starveF_len s k)
 have HN0:=hide (show starveF s 0=[] from rfl)
 obtain ⟨⟨tx,ty⟩,ht⟩:∃t,totalV s=t:=⟨_,rfl⟩
 rw [ht] at CT CD
 clear ht h hf
 obtain ⟨sp,hsp⟩:∃p,starveP s=p:=⟨_,rfl⟩
 obtain ⟨sV,hsV⟩:∃p,starveV s=p:=⟨_,rfl⟩
 obtain ⟨sF,hsF⟩:∃p,starveF s=p:=⟨_,rfl⟩
 obtain ⟨us,hus⟩:∃p,usedByV s=p:=⟨_,rfl⟩
 obtain ⟨ds,hds⟩:∃p,dueV s=p:=⟨_,rfl⟩
 obtain ⟨ps,hps⟩:∃p,pendingV s=p:=⟨_,rfl⟩
 obtain ⟨lf,hlf⟩:∃p,leaf s.qs=p:=⟨_,rfl⟩
 rw [hsF,hsV] at HNE
 rw [hsF,hsp,hlf] at HNF
 rw [hsF] at HN0 HNL
 rw [hsp,hus,hds,hps] at HPS
 rw [hsV]
 rw [hus] at CU
 rw [hds] at CD
 rw [hps] at CP
 rw [hlf] at CL
 clear hsp hsV hus hds hps hsF hlf
 obtain ⟨qa,ql,qc,aa,al,ac,ma,ml,mc,ca,cl,cc⟩:=x
 obtain ⟨qs,clock,epoch,next,serial,apps,ms,cs⟩:=s
 simp only at CT CD CU CP CL hql hml HLQ HRQ HNF HNE
 have HB0:=hide (yA (yA (yH _ w) (.cells (svc ⟨qa,ql,qc,aa,al,ac,ma,ml,mc,ca,cl,cc⟩ ⟨qs,clock,epoch,next,serial,apps,ms,cs⟩) 36)) (.cells #[] 9))
 have P0:=hide ((yD w (svc ⟨qa,ql,qc,aa,al,ac,ma,ml,mc,ca,cl,cc⟩ ⟨qs,clock,epoch,next,serial,apps,ms,cs⟩) 36).al (.cells #[] 9))
 have S0:=hide (show SS ((w.alloc (.cells (svc ⟨qa,ql,qc,aa,al,ac,ma,ml,mc,ca,cl,cc⟩ ⟨qs,clock,epoch,next,serial,apps,ms,cs⟩) 36)).alloc (.cells #[] 9)) (w.heap.size+1) 0 [] from by have:=sown_empty (w.alloc (.cells (svc ⟨qa,ql,qc,aa,al,ac,ma,ml,mc,ca,cl,cc⟩ ⟨qs,clock,epoch,next,serial,apps,ms,cs⟩) 36));rw [yE] at this;exact this)
 go_enter Tryz.func19,Tryz.ntmps19
 obtain ⟨q0,q1,q2,q3,q4,q5,q6,q7⟩:=zq (uH P0)
 go_wp2_with fail
 refine (uH CT _ (uH HB0)).mono ?_
 rintro e w0 ⟨rfl,hb⟩
 have HB1:=hide (yA (yB (uH HB0) hb) (.cells #[.int .i64 tx,.int .i64 ty] 52))
 have P1:=hide (((uH P0).below hb).al (.cells #[.int .i64 tx,.int .i64 ty] 52))
 have S1:=hide (((uH S0).below hb (uH S0).lt).below (yA (yH _ _) (.cells #[.int .i64 tx,.int .i64 ty] 52)) ((uH S0).below hb (uH S0).lt).lt)
 have T1:=hide (var_new w0 52 tx ty)
 clear hb HB0 P0 S0 q0 q1 q2 q3 q4 q5 q6 q7 CT
 obtain ⟨gt,hgt⟩:∃g,w0.heap.size=g:=⟨_,rfl⟩
 rw [hgt] at T1
 go_wp2
 try rw [hgt]
 obtain ⟨w1,hw1⟩:∃W,w0.alloc (.cells #[.int .i64 tx,.int .i64 ty] 52)=W:=⟨_,rfl⟩
 rw [hw1] at HB1 P1 S1 T1 ⊢
 clear hgt hw1
 go_loopw [3,5,6,7,8,9] (fun v i _ _ _ _ wr=>∃(k g cap:Nat) (o:List (List UInt8)),k≤ql∧i=.int .i64 k∧v=.slice (some ⟨g,0,none⟩) o.length cap∧o.length≤k∧w.heap.size<g∧Hid (o=sF k)∧Hid (SS wr g cap (o.map bs))∧Hid (Below w1.heap.size w1 wr)) (fun _ i _ _ _ _ _=>ql - (intOf i).toNat)
 case atStart=>exact ⟨0,w.heap.size+1,0,[],Nat.zero_le _,rfl,rfl,yJ _,by omega,hide (uH HN0).symm,S1,hide (yH _ _)⟩
 case round=>
  obtain ⟨k,g,cap,o,hk,rfl,rfl,hol,hgg,HO,HW,HB⟩:=hrel
  have HB2:=hide (yB (uH HB1) (uH HB))
  have P2:=hide ((uH P1).below (uH HB))
  have T2:=hide ((uH T1).below (uH HB))
  obtain ⟨q0,q1,q2,q3,q4,q5,q6,q7⟩:_∧_∧_∧_∧_∧_∧_∧_:=⟨(uH P2).at 0,(uH P2).at 1,(uH P2).at 2,(uH P2).at 3,(uH P2).at 4,(uH P2).at 5,(uH P2).at 6,(uH P2).at 7⟩
  simp at q0 q1 q2 q3 q4 q5 q6 q7
  by_cases hlt:k<ql
  ·have HR2:=hide ((uH HRQ).below (uH HB2))
   obtain ⟨b,off,rfl,hq⟩:=(uH HR2).at hlt
   have hkl:k<qs.length:=by have:=uH HLQ;omega
   have hc0:=(hq hkl).1
   have hnf:=uH HNF k hkl
   obtain ⟨nm,hnm⟩:∃nm,qs[k].name=nm:=⟨_,rfl⟩
   rw [hnm] at hc0 hnf
   have hst:=uH HPS nm
   obtain ⟨⟨ux,uy⟩,hu⟩:∃t,us nm=t:=⟨_,rfl⟩
   obtain ⟨⟨dx,dy⟩,hd⟩:∃t,ds nm=t:=⟨_,rfl⟩
   obtain ⟨pe,hpe⟩:∃t,ps nm=t:=⟨_,rfl⟩
   obtain ⟨le,hle⟩:∃t,lf nm=t:=⟨_,rfl⟩
   rw [hu,hd,hpe] at hst
   rw [hst,hle] at hnf
   have HNK:=hide hnf
   have CU1:=hide (fun wx hb=>by have:=uH CU nm wx hb;rw [hu] at this;exact this)
   have CD1:=hide (fun wx hb=>by have:=uH CD nm wx hb;rw [hd] at this;exact this)
   have CP1:=hide (fun wx hb=>by have:=uH CP nm wx hb;rw [hpe] at this;exact this)
   have CL1:=hide (fun wx hb=>by have:=uH CL nm wx hb;rw [hle] at this;exact this)
   simp only at CU1 CD1 CP1 CL1
   have R:∀wx,Kp wr wx→wx.cell? ⟨w.heap.size,0,none⟩=some (.slice (some ⟨b,off,none⟩) ql qc)∧wx.cell? ⟨w.heap.size,1,none⟩=some (.int .i64 clock)∧wx.cell? ⟨w.heap.size,2,none⟩=some (.int .i64 epoch)∧wx.cell? ⟨w.heap.size,3,none⟩=some (.int .i64 next)∧wx.cell? ⟨w.heap.size,4,none⟩=some (.int .i64 serial)∧wx.cell? ⟨w.heap.size,5,none⟩=some (.slice aa al ac)∧wx.cell? ⟨w.heap.size,6,none⟩=some (.slice ma ml mc)∧wx.cell? ⟨w.heap.size,7,none⟩=some (.slice ca cl cc)∧wx.cell? ⟨gt,0,none⟩=some (.int .i64 tx)∧wx.cell? ⟨gt,1,none⟩=some (.int .i64 ty):=fun wx h=>
    ⟨h.cell q0,h.cell q1,h.cell q2,h.cell q3,h.cell q4,h.cell q5,h.cell q6,h.cell q7,h.cell (uH T2).c0,h.cell (uH T2).c1⟩
   have A0:=hide (Kp.new wr)
   have HS:=hide (kp_holds wr)
   clear hnm hst hu hd hpe hle hnf hq hkl HR2 q1 q2 q3 q4 q5 q6 q7
   go_wp2_with fail
   clear hc0 q0
   go_cut [7,8] from 26 to 33 (fun v7 v8 wx=>∃g7 g8,v7=.pointer (some ⟨g7,0,none⟩)∧v8=.pointer (some ⟨g8,0,none⟩)∧Var wx 52 g7 ux uy∧Var wx 52 g8 dx dy∧wr.heap.size≤g7∧wr.heap.size≤g8∧Kp wr wx)
   case first=>
    refine wp_region_held_drew (S:=fun wx=>Kp wr wx) (by kernel_rfl) ((uH HS).drew (uH A0)) (fun S0=>?_)
    refine tW 0 26 _ S0 ?_
    try simp only [zW]
    refine tW 1 27 _ S0 ?_
    try simp only [zW]
    refine tW 3 29 _ S0 ?_
    try simp only [zW]
    refine tW 4 30 _ S0 ?_
    try simp only [zW]
    refine tW 5 31 _ S0 ?_
    try simp only [zW]
    refine tW 6 32 _ S0 ?_
    try simp only [zW]
    refine wpAnyH_is (n':=2+2+2) (l':=MSVS.lst 0 [false,false] 0) (a':=FSVS w wr nm ux uy tx ty dx dy g o.length cap k gt u7 u8 u9 u18 u19 u28 u33 u34 u35 u36 u37 u38 u39 u40 u41 u42 u43 u44 u45 u46 u47 u48 u49 u50 u51 u52 u53 u54 u55 u56 u57 u58 u59 u60 u61 u62 u63 u64 u65 u66 u67 u68 u69 u70 u71 u72 u73 u74 u75 u76 u77 u78 b off ql qc aa al ac ma ml mc ca cl cc qs clock epoch next serial apps ms cs 0 [false,false] [0,0]) rfl (by kernel_rfl) rfl ?_
    refine region_multi (w1:=wr) MSVS (FSVS w wr nm ux uy tx ty dx dy g o.length cap k gt u7 u8 u9 u18 u19 u28 u33 u34 u35 u36 u37 u38 u39 u40 u41 u42 u43 u44 u45 u46 u47 u48 u49 u50 u51 u52 u53 u54 u55 u56 u57 u58 u59 u60 u61 u62 u63 u64 u65 u66 u67 u68 u69 u70 u71 u72 u73 u74 u75 u76 u77 u78 b off ql qc aa al ac ma ml mc ca cl cc qs clock epoch next serial apps ms cs) [(ux,uy),(dx,dy)] rfl (by as_aux_lemma=>kernel_rfl) ?call ?al ?st ?fin _ S0
    case call=>
     intro c f us wz K hc hf hu kp hK
     obtain ⟨f0,f1,rfl⟩:=list2 hf
     obtain ⟨g7,g8,rfl⟩:=list2 hu
     have hc4:c<2:=hc
     match c,hc4,hK with
     | 0,_,hK=>
      show Mul.step _ _ _ 2 _ _ _
      refine ⟨_,rfl,?_⟩
      simp only [FSVS,List.getD_cons_zero,List.getD_cons_succ]
      go_simp
      refine (uH CU1 _ (yB (uH HB2) kp)).mono ?_
      rintro e w2 ⟨rfl,hb⟩
      go_wp2_with fail
      first | exact hb | exact hK _ hb
     | 1,_,hK=>
      show Mul.step _ _ _ 7 _ _ _
      refine ⟨_,rfl,?_⟩
      simp only [FSVS,List.getD_cons_zero,List.getD_cons_succ]
      go_simp
      refine (uH CD1 _ (yB (uH HB2) kp)).mono ?_
      rintro e w2 ⟨rfl,hb⟩
      go_wp2_with fail
      first | exact hb | exact hK _ hb
    case al=>
     intro j c f us wz K hc hf hu hj hK
     obtain ⟨f0,f1,rfl⟩:=list2 hf
     obtain ⟨g7,g8,rfl⟩:=list2 hu
     match j,hj,hK with
     | 0,hj,hK=>
      show Mul.step _ _ _ 8 _ _ _
      refine ⟨_,rfl,?_⟩
      simp only [FSVS,List.getD_cons_zero,List.getD_cons_succ]
      go_simp
      go_wp2_with fail
      exact hK
     | 1,hj,hK=>
      show Mul.step _ _ _ 9 _ _ _
      refine ⟨_,rfl,?_⟩
      simp only [FSVS,List.getD_cons_zero,List.getD_cons_succ]
      go_simp
      go_wp2_with fail
      exact hK
     | j+2,hj,_=>simp at hj
    case st=>
     intro s us wz K hs hu hv hK
     obtain ⟨g7,g8,rfl⟩:=list2 hu
     have hs4:s<2:=hs
     match s,hs4,hv,hK with
     | 0,_,hv,hK=>
      replace hv:Var wz 52 g7 0 0:=hv
      have y0:=hv.c0
      have y1:=hv.c1
      have y2:=hv.f 0
      have y3:=hv.f 1
      show Mul.step _ _ _ 10 { tmps:=#[sv ⟨some ⟨b,off,none⟩,ql,qc,aa,al,ac,ma,ml,mc,ca,cl,cc⟩ ⟨qs,clock,epoch,next,serial,apps,ms,cs⟩,.pointer (some ⟨w.heap.size,0,none⟩),.slice none 0 0,.slice (some ⟨g,0,none⟩) o.length cap,.pointer (some ⟨gt,0,none⟩),.int .i64 (k:Int),.string (bs nm),.pointer (some ⟨g7,0,none⟩),.pointer (some ⟨g8,0,none⟩),u9,.slice (some ⟨w.heap.size+1,0,none⟩) 0 0,.agg #[.slice (some ⟨b,off,none⟩) ql qc,.int .i64 clock,.int .i64 epoch,.int .i64 next,.int .i64 serial,.slice aa al ac,.slice ma ml mc,.slice ca cl cc],rv tx ty,.int .i64 (k:Int),.pointer (some ⟨w.heap.size,0,none⟩),.slice (some ⟨b,off,none⟩) ql qc,.int .i64 (ql:Int),.bool true,u18,u19,.pointer (some ⟨w.heap.size,0,none⟩),.slice (some ⟨b,off,none⟩) ql qc,.int .i64 (k:Int),.pointer (some ⟨b,off+k*4,none⟩),.pointer (some ⟨b,off+k*4,none⟩),.string (bs nm),.agg #[.slice (some ⟨b,off,none⟩) ql qc,.int .i64 clock,.int .i64 epoch,.int .i64 next,.int .i64 serial,.slice aa al ac,.slice ma ml mc,.slice ca cl cc],.string (bs nm),rv ux uy,.pointer (some ⟨w.heap.size,0,none⟩),.slice (some ⟨b,off,none⟩) ql qc,.string (bs nm),rv tx ty,rv dx dy,u34,u35,u36,u37,u38,u39,u40,u41,u42,u43,u44,u45,u46,u47,u48,u49,u50,u51,u52,u53,u54,u55,u56,u57,u58,u59,u60,u61,u62,u63,u64,u65,u66,u67,u68,u69,u70,u71,u72,u73,u74,u75,u76,u77,u78,undef],defers:=[] } _ _
      refine ⟨_,rfl,?_⟩
      simp only [FSVS,List.getD_cons_zero,List.getD_cons_succ]
      go_simp
      go_wp2_with fail
      exact hK
     | 1,_,hv,hK=>
      replace hv:Var wz 52 g8 0 0:=hv
      have y0:=hv.c0
      have y1:=hv.c1
      have y2:=hv.f 0
      have y3:=hv.f 1
      show Mul.step _ _ _ 11 { tmps:=#[sv ⟨some ⟨b,off,none⟩,ql,qc,aa,al,ac,ma,ml,mc,ca,cl,cc⟩ ⟨qs,clock,epoch,next,serial,apps,ms,cs⟩,.pointer (some ⟨w.heap.size,0,none⟩),.slice none 0 0,.slice (some ⟨g,0,none⟩) o.length cap,.pointer (some ⟨gt,0,none⟩),.int .i64 (k:Int),.string (bs nm),.pointer (some ⟨g7,0,none⟩),.pointer (some ⟨g8,0,none⟩),u9,.slice (some ⟨w.heap.size+1,0,none⟩) 0 0,.agg #[.slice (some ⟨b,off,none⟩) ql qc,.int .i64 clock,.int .i64 epoch,.int .i64 next,.int .i64 serial,.slice aa al ac,.slice ma ml mc,.slice ca cl cc],rv tx ty,.int .i64 (k:Int),.pointer (some ⟨w.heap.size,0,none⟩),.slice (some ⟨b,off,none⟩) ql qc,.int .i64 (ql:Int),.bool true,u18,u19,.pointer (some ⟨w.heap.size,0,none⟩),.slice (some ⟨b,off,none⟩) ql qc,.int .i64 (k:Int),.pointer (some ⟨b,off+k*4,none⟩),.pointer (some ⟨b,off+k*4,none⟩),.string (bs nm),.agg #[.slice (some ⟨b,off,none⟩) ql qc,.int .i64 clock,.int .i64 epoch,.int .i64 next,.int .i64 serial,.slice aa al ac,.slice ma ml mc,.slice ca cl cc],.string (bs nm),rv ux uy,.pointer (some ⟨w.heap.size,0,none⟩),.slice (some ⟨b,off,none⟩) ql qc,.string (bs nm),rv tx ty,rv dx dy,u34,u35,u36,u37,u38,u39,u40,u41,u42,u43,u44,u45,u46,u47,u48,u49,u50,u51,u52,u53,u54,u55,u56,u57,u58,u59,u60,u61,u62,u63,u64,u65,u66,u67,u68,u69,u70,u71,u72,u73,u74,u75,u76,u77,u78,undef],defers:=[] } _ _
      refine ⟨_,rfl,?_⟩
      simp only [FSVS,List.getD_cons_zero,List.getD_cons_succ]
      go_simp
      go_wp2_with fail
      exact hK
    case fin=>
     intro us wz hu hV kp
     obtain ⟨g7,g8,rfl⟩:=list2 hu
     have vA:VB wr wz g7 ux uy:=hV 0 (by decide)
     have vB:VB wr wz g8 dx dy:=hV 1 (by decide)
     go_wp2_with fail
     go_meet
     exact ⟨g7,g8,rfl,rfl,vA.2,vB.2,vA.1,vB.1,kp⟩
   case rest=>
    obtain ⟨g7,g8,rfl,rfl,hv7,hv8,hg7,hg8,hA⟩:=hcut
    obtain ⟨w4,rfl⟩:∃w4,w4=wc:=⟨wc,rfl⟩
    obtain ⟨q0,q1,q2,q3,q4,q5,q6,q7,-,-⟩:=R _ hA
    have V7:=hide hv7
    have V8:=hide hv8
    have HW4:=hide ((uH HW).below hA (uH HW).lt)
    have HB4:=hide (yB (uH HB2) hA)
    have HL4:=hide (yB (uH HB) hA)
    have P4:=hide ((uH P2).below hA)
    clear hv7 hv8 hA R A0 HS HW HB HB2 P2 T2
    go_upto_region 8 with fail
    go_cut [52] from 34 to 51 (fun v52 wx=>∃z,v52=.bool z∧Hid ((le&&(pe&&(within ux uy dx dy&&!decide ((ux,uy)=(dx,dy)))))=z)∧Hid (SS wx g cap (o.map bs))∧Hid (Below w1.heap.size w1 wx))
    case first=>
     go_wp2_with fail
     refine (uH CL1 _ (uH HB4)).mono ?_
     rintro e w5 ⟨rfl,hb⟩
     have V75:=hide ((uH V7).below hb)
     have V85:=hide ((uH V8).below hb)
     have HW5:=hide ((uH HW4).below hb (uH HW4).lt)
     have HL5:=hide (yB (uH HL4) hb)
     have HB5:=hide (yB (uH HB4) hb)
     have P5:=hide ((uH P4).below hb)
     clear hb V7 V8 HW4 HB4 HL4 P4 q0 q1 q2 q3 q4 q5 q6 q7 CL1 CU1 CD1
     cases le
     case false=>
      go_wp2
      all_goals
       go_meet
       exact ⟨_,rfl,hide (by rfl),HW5,HL5⟩
     case true=>
      obtain ⟨q0,q1,q2,q3,q4,q5,q6,q7⟩:_∧_∧_∧_∧_∧_∧_∧_:=⟨(uH P5).at 0,(uH P5).at 1,(uH P5).at 2,(uH P5).at 3,(uH P5).at 4,(uH P5).at 5,(uH P5).at 6,(uH P5).at 7⟩
      simp at q0 q1 q2 q3 q4 q5 q6 q7
      go_wp2_with fail
      refine (uH CP1 _ (uH HB5)).mono ?_
      rintro e w7 ⟨rfl,hb⟩
      have V77:=hide ((uH V75).below hb)
      have V87:=hide ((uH V85).below hb)
      have HW7:=hide ((uH HW5).below hb (uH HW5).lt)
      have HL7:=hide (yB (uH HL5) hb)
      clear hb V75 V85 HW5 HB5 HL5 P5 q0 q1 q2 q3 q4 q5 q6 q7 CP1
      cases pe
      case false=>
       go_wp2
       all_goals
        go_meet
        exact ⟨_,rfl,hide (by rfl),HW7,HL7⟩
      case true=>
       have c0:=(uH V77).c0
       have c1:=(uH V77).c1
       have d0:=(uH V87).c0
       have d1:=(uH V87).c1
       obtain ⟨wi,hwi⟩:∃b,within ux uy dx dy=b:=⟨_,rfl⟩
       have CW:=hide (fun wx=>by have:=specWithin_any ux uy dx dy wx;rw [hwi] at this;exact this)
       have HWI:=hide hwi
       clear hwi
       go_wp2_with fail
       refine (uH CW _).mono ?_
       rintro e w8 ⟨rfl,hb⟩
       have V78:=hide ((uH V77).below hb)
       have V88:=hide ((uH V87).below hb)
       have HW8:=hide ((uH HW7).below hb (uH HW7).lt)
       have HL8:=hide (yB (uH HL7) hb)
       clear hb HW7 HL7 V77 V87 c0 c1 d0 d1 CW
       cases wi
       case false=>
        go_wp2
        all_goals
         go_meet
         exact ⟨_,rfl,hide (by rw [uH HWI];rfl),HW8,HL8⟩
       case true=>
        have c0:=(uH V78).c0
        have c1:=(uH V78).c1
        have d0:=(uH V88).c0
        have d1:=(uH V88).c1
        by_cases h1:ux=dx
        ·by_cases h2:uy=dy
         ·subst h1 h2
          go_wp2
          all_goals
           go_meet
           exact ⟨_,rfl,hide (by rw [uH HWI];simp),HW8,HL8⟩
         ·
          go_wp2
          all_goals
           go_meet
           exact ⟨_,rfl,hide (by rw [uH HWI];simp [h1,h2]),HW8,HL8⟩
        ·
         go_wp2
         all_goals
          go_meet
          exact ⟨_,rfl,hide (by rw [uH HWI];simp [h1]),HW8,HL8⟩
    case rest=>
     obtain ⟨z,rfl,HZ,HW5,HL5⟩:=hcut
     obtain ⟨w5,rfl⟩:∃w5,w5=wc:=⟨wc,rfl⟩
     clear V7 V8 HW4 HB4 HL4 P4 q0 q1 q2 q3 q4 q5 q6 q7 CL1 CU1 CD1 CP1
     rw [uH HZ] at HNK
     clear HZ
     cases z
     case false=>
      go_wp2
      go_roundw
      case rel=>exact ⟨k+1,g,cap,o,by omega,by go_num,rfl,by omega,hgg,hide (by rw [uH HNK,if_neg (by simp)];exact uH HO),HW5,HL5⟩
      case measure=>simp [intOf];omega
     case true=>
      have HP:=hide (show OrdM.ins Op.bytesLess nm o=sF (k+1) by rw [uH HNK,if_pos rfl,←uH HO])
      go_wp2
      go_loopw [9] (fun i wr2=>∃j:Nat,j≤o.length∧i=.int .i64 j∧Hid (j+place1 Op.bytesLess nm (o.drop j)=place1 Op.bytesLess nm o)∧w5=wr2) (fun i _=>o.length - (intOf i).toNat)
      case atStart=>exact ⟨0,Nat.zero_le _,rfl,hide (by simp),rfl⟩
      case round=>
       obtain ⟨j,hj,rfl,HJ,rfl⟩:=hrel
       by_cases hjl:j<o.length
       ·have hcj:=(uH HW5).text hjl
        have hps:=place1_step Op.bytesLess nm hjl
        obtain ⟨y,hy⟩:∃y,o[j]=y:=⟨_,rfl⟩
        rw [hy] at hcj hps
        obtain ⟨bl,hbl⟩:∃b,Op.bytesLess (bs y).toList (bs nm).toList=b:=⟨_,rfl⟩
        have hbl2:Op.bytesLess y nm=bl:=by rw [←hbl];simp [bs]
        rw [hbl2] at hps
        have HPS2:=hide hps
        clear hps hy hbl2
        cases bl
        ·have HAT:=hide (show place1 Op.bytesLess nm o=j by have:=uH HPS2;have:=uH HJ;simp at *;omega)
         clear HJ HPS2
         go_wp2_with fail
         have hlo:=cutS_lo g o.length cap j (by have:=(uH HW5).block;obtain ⟨_,_,h,_⟩:=this;rw [List.length_map] at h;omega)
         have hhi:=cutS_hi g o.length cap j hj
         obtain ⟨NC1,hc1⟩:∃c,((o.map bs).take j).map Value.string=c:=⟨_,rfl⟩
         obtain ⟨NC2,hc2⟩:∃c,((o.map bs).drop j).map Value.string=c:=⟨_,rfl⟩
         have HLO:=hide (show ∀wx:World,Kp w5 wx→∀i u,NC1[i]? = some u→wx.cell? (Addr.add ⟨g,0,none⟩ i)=some u from fun wx hb i u hu=>(uH HW5).lo hb j i u (by rw [hc1];exact hu))
         have HHI:=hide (show ∀wx:World,Kp w5 wx→∀i u,NC2[i]? = some u→wx.cell? (Addr.add (hiA g cap j 1) i)=some u from fun wx hb i u hu=>(uH HW5).hi hb j i u (by rw [hc2];exact hu))
         have HL1:=hide (show NC1.length=j*1 by rw [←hc1];simp;omega)
         have HL2:=hide (show NC2.length=(o.length - j)*1 by rw [←hc2];simp)
         have HO1:=hide (show ∀u ∈ NC1,u.oneCell'=true by rw [←hc1];exact one_strings _)
         have HO2:=hide (show ∀u ∈ NC2,u.oneCell'=true by rw [←hc2];exact one_strings _)
         have HOX:=hide (show ∀u ∈ #[Value.string (bs nm)].toList,u.oneCell'=true from fun u hu=>by simp at hu;subst hu;rfl)
         have HC1:=hide hc1.symm
         have HC2:=hide hc2.symm
         have A0:=hide (Kp.new w5)
         have HS:=hide (kp_holds w5)
         have HB6:=hide (yB (uH HB1) (uH HL5))
         clear hc1 hc2
         refine wp_region_held_drew (S:=fun wx=>Kp w5 wx) (by kernel_rfl) ((uH HS).drew (uH A0)) (fun S0=>?_)
         refine tW 1 68 _ S0 ?_
         try simp only [zW]
         refine tW 2 69 _ S0 ?_
         try simp only [zW]
         refine takeD (i:=3) (d:=some 70) (v:=.slice (some ⟨g,0,none⟩) j cap) rfl rfl (by kernel_rfl) (by kernel_rfl) (by kernel_rfl) (fun _ _ _ h=>h) (Or.inl ⟨by rfl,fun wz hz=>by (go_simp;try with_reducible rfl)⟩) S0 ?_
         try simp only [zW]
         refine tW 5 72 _ S0 ?_
         try simp only [zW]
         refine tW 8 75 _ S0 ?_
         try simp only [zW]
         refine tW 9 76 _ S0 ?_
         try simp only [zW]
         refine takeD (i:=10) (d:=some 77) (v:=.slice (some (hiA g cap j 1)) (o.length - j) (cap - j)) rfl rfl (by kernel_rfl) (by kernel_rfl) (by kernel_rfl) (fun _ _ _ h=>h) (Or.inl ⟨by rfl,fun wz hz=>by (go_simp;try with_reducible rfl)⟩) S0 ?_
         try simp only [zW]
         refine wpAnyH_inv (SVT w5 g o.length cap j NC1 NC2 nm _ _ _ _ _ _ _ _ _ _ _ _ _ _ _ _ _ _ _ _ _ _ _ _ _ _ _ _ _ _ _ _ _ _ _ _ _ _ _ _ _ _ _ _ _ _ _ _ _ _ _ _ _ _ _ _ _ _ _ _ _ _ _ _ _ _ _ _ _ _) ?step ?fin 6 _ _ _ (.inl (⟨rfl,by kernel_rfl,rfl,S0⟩))
         case fin=>
          intro lz az wz hI
          rcases hI with h | h | h | h | h | h | h | h | h
          ·obtain ⟨hn,_⟩:=h
           cases hn
          ·obtain ⟨_,hn,_⟩:=h
           cases hn
          ·obtain ⟨_,hn,_⟩:=h
           cases hn
          ·obtain ⟨_,_,hn,_⟩:=h
           cases hn
          ·obtain ⟨_,_,hn,_⟩:=h
           cases hn
          ·obtain ⟨_,_,_,hn,_⟩:=h
           cases hn
          ·obtain ⟨_,_,_,_,hn,_⟩:=h
           cases hn
          ·obtain ⟨_,_,_,_,_,hn,_⟩:=h
           cases hn
          ·obtain ⟨g0,v1,gb,v2,v3,-,rfl,rfl,hr,kp⟩:=h
           refine ⟨by kernel_rfl,?_⟩
           obtain ⟨g2,cap2,rfl,hg2,hown,hc2⟩:=hr.open
           have HN2:=hide (show OrdM.ins Op.bytesLess nm o=o.take j++nm::o.drop j by rw [ins_place,uH HAT])
           have hlen2:(o.take j++nm::o.drop j).length=j+1+(o.length - j):=by simp;omega
           have HW9:=hide (show SS wz g2 cap2 ((o.take j++nm::o.drop j).map bs) by
            unfold SS
            rw [List.length_map,hlen2]
            have e:((o.take j++nm::o.drop j).map bs).map Value.string=NC1++[Value.string (bs nm)]++NC2:=by rw [uH HC1,uH HC2];simp
            rw [e]
            exact hown)
           have HL9:=hide (yB (uH HL5) kp)
           have hg3:w.heap.size<g2:=by have:=(uH HB6).size;have:=(uH HW5).lt;omega
           clear hown hr kp
           go_wp2
           go_roundw
           case rel=>exact ⟨k+1,g2,cap2,o.take j++nm::o.drop j,by omega,by go_num,by rw [hlen2],by rw [hlen2];omega,hg3,hide (by rw [←uH HP,uH HN2]),HW9,HL9⟩
           case measure=>simp [intOf];omega
         case step=>
          intro n lz az wz hI
          rcases hI with h | h | h | h | h | h | h | h | h
          ·obtain ⟨hn,rfl,rfl,kp⟩:=h
           obtain rfl:n=5:=by omega
           refine ready_step (rs:=[0,6]) (by kernel_rfl) (by simp) ?_
           refine AllReadyI.cons rfl (fun K hK=>?_) ?_
           ·go_simp
            go_wp2_with fail
            exact hK.out _ _ (yA kp _) (.inr (.inr (.inl (⟨wz.heap.size,rfl,rfl,rfl,irow_new kp,yA kp _⟩))))
           refine AllReadyI.cons rfl (fun K hK=>?_) ?_
           ·go_simp
            go_wp2_with fail
            exact hK.out _ _ (yA kp _) (.inr (.inl (⟨wz.heap.size,rfl,rfl,rfl,ibox_new kp _,yA kp _⟩)))
           exact AllReadyI.nil
          ·obtain ⟨gb,hn,rfl,rfl,hbx,kp⟩:=h
           obtain rfl:n=4:=by omega
           refine ready_step (rs:=[0]) (by kernel_rfl) (by simp) ?_
           refine AllReadyI.cons rfl (fun K hK=>?_) ?_
           ·go_simp
            go_wp2_with fail
            exact hK.out _ _ (yA kp _) (.inr (.inr (.inr (.inl (⟨wz.heap.size,gb,rfl,rfl,rfl,irow_new kp,hbx.al _,Nat.ne_of_lt hbx.lt,yA kp _⟩)))))
           exact AllReadyI.nil
          ·obtain ⟨g0,hn,rfl,rfl,hr,kp⟩:=h
           obtain rfl:n=4:=by omega
           refine ready_step (rs:=[4,6]) (by kernel_rfl) (by simp) ?_
           refine AllReadyI.cons rfl (fun K hK=>?_) ?_
           ·refine ins_app (w1:=w5) rfl (.tmp 67) (.tmp 70) 49 rfl 9 i0 (.string ByteArray.empty) 1 16 Tryz.underlying49 hi hz0 hz1 hz2 rfl (by decide) (.slice (some ⟨g0,0,none⟩) 0 0) 0 [] rfl hr kp ⟨g,0,none⟩ j cap NC1 rfl (uH HL1) (fun i u hu=>uH HLO _ kp i u hu) (uH HO1) (by unfold maxLen;omega) (by omega) ?_
            intro v1 wz2 hr2 kp2 hsame
            try simp only [zW]
            exact hK.out _ _ kp2 (.inr (.inr (.inr (.inr (.inl (⟨g0,v1,rfl,by kernel_rfl,rfl,owns_re hr2 (by omega) (List.nil_append _),kp2⟩))))))
           refine AllReadyI.cons rfl (fun K hK=>?_) ?_
           ·go_simp
            go_wp2_with fail
            exact hK.out _ _ (yA kp _) (.inr (.inr (.inr (.inl (⟨g0,wz.heap.size,rfl,rfl,rfl,hr.al _,ibox_new kp _,(Nat.ne_of_gt (by obtain ⟨q,q2,q3,q4,q5,q6⟩:=hr.open;cases q3;exact (World.ownsRow.lt q5 g0 rfl).2)),yA kp _⟩)))))
           exact AllReadyI.nil
          ·obtain ⟨g0,gb,hn,rfl,rfl,hr,hbx,hne,kp⟩:=h
           obtain rfl:n=3:=by omega
           refine ready_step (rs:=[4]) (by kernel_rfl) (by simp) ?_
           refine AllReadyI.cons rfl (fun K hK=>?_) ?_
           ·refine ins_app (w1:=w5) rfl (.tmp 67) (.tmp 70) 49 rfl 9 i0 (.string ByteArray.empty) 1 16 Tryz.underlying49 hi hz0 hz1 hz2 rfl (by decide) (.slice (some ⟨g0,0,none⟩) 0 0) 0 [] rfl hr kp ⟨g,0,none⟩ j cap NC1 rfl (uH HL1) (fun i u hu=>uH HLO _ kp i u hu) (uH HO1) (by unfold maxLen;omega) (by omega) ?_
            intro v1 wz2 hr2 kp2 hsame
            try simp only [zW]
            exact hK.out _ _ kp2 (.inr (.inr (.inr (.inr (.inr (.inl (⟨g0,v1,gb,rfl,by kernel_rfl,rfl,owns_re hr2 (by omega) (List.nil_append _),hbx.same (hsame gb hbx.lt (by simp [Value.ownBlock];omega)),kp2⟩)))))))
           exact AllReadyI.nil
          ·obtain ⟨g0,v1,hn,rfl,rfl,hr,kp⟩:=h
           obtain rfl:n=3:=by omega
           refine ready_step (rs:=[6]) (by kernel_rfl) (by simp) ?_
           refine AllReadyI.cons rfl (fun K hK=>?_) ?_
           ·go_simp
            go_wp2_with fail
            exact hK.out _ _ (yA kp _) (.inr (.inr (.inr (.inr (.inr (.inl (⟨g0,v1,wz.heap.size,rfl,rfl,rfl,hr.al _,ibox_new kp _,yA kp _⟩)))))))
           exact AllReadyI.nil
          ·obtain ⟨g0,v1,gb,hn,rfl,rfl,hr,hbx,kp⟩:=h
           obtain rfl:n=2:=by omega
           refine ready_step (rs:=[7]) (by kernel_rfl) (by simp) ?_
           refine AllReadyI.cons rfl (fun K hK=>?_) ?_
           ·refine ins_app (w1:=w5) rfl (.tmp 71) (.tmp 73) 49 rfl 9 i0 (.string ByteArray.empty) 1 16 Tryz.underlying49 hi hz0 hz1 hz2 rfl (by decide) v1 j NC1 rfl hr kp ⟨gb,0,none⟩ 1 1 #[Value.string (bs nm)].toList rfl (by rfl) hbx.news (uH HOX) (by unfold maxLen;omega) (by omega) ?_
            intro v2 wz2 hr2 kp2 hsame
            try simp only [zW]
            exact hK.out _ _ kp2 (.inr (.inr (.inr (.inr (.inr (.inr (.inl (⟨g0,v1,gb,v2,rfl,by kernel_rfl,rfl,hr2,kp2⟩))))))))
           exact AllReadyI.nil
          ·obtain ⟨g0,v1,gb,v2,hn,rfl,rfl,hr,kp⟩:=h
           obtain rfl:n=1:=by omega
           refine ready_step (rs:=[11]) (by kernel_rfl) (by simp) ?_
           refine AllReadyI.cons rfl (fun K hK=>?_) ?_
           ·refine ins_app (w1:=w5) rfl (.tmp 74) (.tmp 77) 49 rfl 9 i0 (.string ByteArray.empty) 1 16 Tryz.underlying49 hi hz0 hz1 hz2 rfl (by decide) v2 (j+1) (NC1++#[Value.string (bs nm)].toList) rfl hr kp (hiA g cap j 1) (o.length - j) (cap - j) NC2 rfl (uH HL2) (fun i u hu=>uH HHI _ kp i u hu) (uH HO2) (by unfold maxLen;omega) (by omega) ?_
            intro v3 wz2 hr2 kp2 hsame
            try simp only [zW]
            exact hK.out _ _ kp2 (.inr (.inr (.inr (.inr (.inr (.inr (.inr (.inl (⟨g0,v1,gb,v2,v3,rfl,by kernel_rfl,rfl,hr2,kp2⟩)))))))))
           exact AllReadyI.nil
          ·obtain ⟨g0,v1,gb,v2,v3,hn,rfl,rfl,hr,kp⟩:=h
           obtain rfl:n=0:=by omega
           refine ready_step (rs:=[12]) (by kernel_rfl) (by simp) ?_
           refine AllReadyI.cons rfl (fun K hK=>?_) ?_
           ·go_simp
            go_wp2_with fail
            exact hK.out _ _ kp (.inr (.inr (.inr (.inr (.inr (.inr (.inr (.inr (⟨g0,v1,gb,v2,v3,rfl,rfl,rfl,hr,kp⟩)))))))))
           exact AllReadyI.nil
          ·obtain ⟨_,_,_,_,_,hn,_⟩:=h
           cases hn
        ·go_wp2
         go_roundw
         case rel=>exact ⟨j+1,by omega,by go_num,hide (by have:=uH HPS2;have:=uH HJ;simp at *;omega),by first | rfl | trivial⟩
         case measure=>simp [intOf];omega
       ·have hje:j=o.length:=by omega
        have HAT:=hide (show place1 Op.bytesLess nm o=j by have:=place1_end Op.bytesLess nm (l:=o) (k:=j) (by omega);have:=uH HJ;omega)
        clear HJ hje
        have hjn:¬(j:Int)<(o.length:Int):=by omega
        go_wp2_with fail
        have hlo:=cutS_lo g o.length cap j (by have:=(uH HW5).block;obtain ⟨_,_,h,_⟩:=this;rw [List.length_map] at h;omega)
        have hhi:=cutS_hi g o.length cap j hj
        obtain ⟨NC1,hc1⟩:∃c,((o.map bs).take j).map Value.string=c:=⟨_,rfl⟩
        obtain ⟨NC2,hc2⟩:∃c,((o.map bs).drop j).map Value.string=c:=⟨_,rfl⟩
        have HLO:=hide (show ∀wx:World,Kp w5 wx→∀i u,NC1[i]? = some u→wx.cell? (Addr.add ⟨g,0,none⟩ i)=some u from fun wx hb i u hu=>(uH HW5).lo hb j i u (by rw [hc1];exact hu))
        have HHI:=hide (show ∀wx:World,Kp w5 wx→∀i u,NC2[i]? = some u→wx.cell? (Addr.add (hiA g cap j 1) i)=some u from fun wx hb i u hu=>(uH HW5).hi hb j i u (by rw [hc2];exact hu))
        have HL1:=hide (show NC1.length=j*1 by rw [←hc1];simp;omega)
        have HL2:=hide (show NC2.length=(o.length - j)*1 by rw [←hc2];simp)
        have HO1:=hide (show ∀u ∈ NC1,u.oneCell'=true by rw [←hc1];exact one_strings _)
        have HO2:=hide (show ∀u ∈ NC2,u.oneCell'=true by rw [←hc2];exact one_strings _)
        have HOX:=hide (show ∀u ∈ #[Value.string (bs nm)].toList,u.oneCell'=true from fun u hu=>by simp at hu;subst hu;rfl)
        have HC1:=hide hc1.symm
        have HC2:=hide hc2.symm
        have A0:=hide (Kp.new w5)
        have HS:=hide (kp_holds w5)
        have HB6:=hide (yB (uH HB1) (uH HL5))
        clear hc1 hc2
        refine wp_region_held_drew (S:=fun wx=>Kp w5 wx) (by kernel_rfl) ((uH HS).drew (uH A0)) (fun S0=>?_)
        refine tW 1 68 _ S0 ?_
        try simp only [zW]
        refine tW 2 69 _ S0 ?_
        try simp only [zW]
        refine takeD (i:=3) (d:=some 70) (v:=.slice (some ⟨g,0,none⟩) j cap) rfl rfl (by kernel_rfl) (by kernel_rfl) (by kernel_rfl) (fun _ _ _ h=>h) (Or.inl ⟨by rfl,fun wz hz=>by (go_simp;try with_reducible rfl)⟩) S0 ?_
        try simp only [zW]
        refine tW 5 72 _ S0 ?_
        try simp only [zW]
        refine tW 8 75 _ S0 ?_
        try simp only [zW]
        refine tW 9 76 _ S0 ?_
        try simp only [zW]
        refine takeD (i:=10) (d:=some 77) (v:=.slice (some (hiA g cap j 1)) (o.length - j) (cap - j)) rfl rfl (by kernel_rfl) (by kernel_rfl) (by kernel_rfl) (fun _ _ _ h=>h) (Or.inl ⟨by rfl,fun wz hz=>by (go_simp;try with_reducible rfl)⟩) S0 ?_
        try simp only [zW]
        refine wpAnyH_inv (SVT w5 g o.length cap j NC1 NC2 nm _ _ _ _ _ _ _ _ _ _ _ _ _ _ _ _ _ _ _ _ _ _ _ _ _ _ _ _ _ _ _ _ _ _ _ _ _ _ _ _ _ _ _ _ _ _ _ _ _ _ _ _ _ _ _ _ _ _ _ _ _ _ _ _ _ _ _ _ _ _) ?step ?fin 6 _ _ _ (.inl (⟨rfl,by kernel_rfl,rfl,S0⟩))
        case fin=>
         intro lz az wz hI
         rcases hI with h | h | h | h | h | h | h | h | h
         ·obtain ⟨hn,_⟩:=h
          cases hn
         ·obtain ⟨_,hn,_⟩:=h
          cases hn
         ·obtain ⟨_,hn,_⟩:=h
          cases hn
         ·obtain ⟨_,_,hn,_⟩:=h
          cases hn
         ·obtain ⟨_,_,hn,_⟩:=h
          cases hn
         ·obtain ⟨_,_,_,hn,_⟩:=h
          cases hn
         ·obtain ⟨_,_,_,_,hn,_⟩:=h
          cases hn
         ·obtain ⟨_,_,_,_,_,hn,_⟩:=h
          cases hn
         ·obtain ⟨g0,v1,gb,v2,v3,-,rfl,rfl,hr,kp⟩:=h
          refine ⟨by kernel_rfl,?_⟩
          obtain ⟨g2,cap2,rfl,hg2,hown,hc2⟩:=hr.open
          have HN2:=hide (show OrdM.ins Op.bytesLess nm o=o.take j++nm::o.drop j by rw [ins_place,uH HAT])
          have hlen2:(o.take j++nm::o.drop j).length=j+1+(o.length - j):=by simp;omega
          have HW9:=hide (show SS wz g2 cap2 ((o.take j++nm::o.drop j).map bs) by
           unfold SS
           rw [List.length_map,hlen2]
           have e:((o.take j++nm::o.drop j).map bs).map Value.string=NC1++[Value.string (bs nm)]++NC2:=by rw [uH HC1,uH HC2];simp
           rw [e]
           exact hown)
          have HL9:=hide (yB (uH HL5) kp)
          have hg3:w.heap.size<g2:=by have:=(uH HB6).size;have:=(uH HW5).lt;omega
          clear hown hr kp
          go_wp2
          go_roundw
          case rel=>exact ⟨k+1,g2,cap2,o.take j++nm::o.drop j,by omega,by go_num,by rw [hlen2],by rw [hlen2];omega,hg3,hide (by rw [←uH HP,uH HN2]),HW9,HL9⟩
          case measure=>simp [intOf];omega
        case step=>
         intro n lz az wz hI
         rcases hI with h | h | h | h | h | h | h | h | h
         ·obtain ⟨hn,rfl,rfl,kp⟩:=h
          obtain rfl:n=5:=by omega
          refine ready_step (rs:=[0,6]) (by kernel_rfl) (by simp) ?_
          refine AllReadyI.cons rfl (fun K hK=>?_) ?_
          ·go_simp
           go_wp2_with fail
           exact hK.out _ _ (yA kp _) (.inr (.inr (.inl (⟨wz.heap.size,rfl,rfl,rfl,irow_new kp,yA kp _⟩))))
          refine AllReadyI.cons rfl (fun K hK=>?_) ?_
          ·go_simp
           go_wp2_with fail
           exact hK.out _ _ (yA kp _) (.inr (.inl (⟨wz.heap.size,rfl,rfl,rfl,ibox_new kp _,yA kp _⟩)))
          exact AllReadyI.nil
         ·obtain ⟨gb,hn,rfl,rfl,hbx,kp⟩:=h
          obtain rfl:n=4:=by omega
          refine ready_step (rs:=[0]) (by kernel_rfl) (by simp) ?_
          refine AllReadyI.cons rfl (fun K hK=>?_) ?_
          ·go_simp
           go_wp2_with fail
           exact hK.out _ _ (yA kp _) (.inr (.inr (.inr (.inl (⟨wz.heap.size,gb,rfl,rfl,rfl,irow_new kp,hbx.al _,Nat.ne_of_lt hbx.lt,yA kp _⟩)))))
          exact AllReadyI.nil
         ·obtain ⟨g0,hn,rfl,rfl,hr,kp⟩:=h
          obtain rfl:n=4:=by omega
          refine ready_step (rs:=[4,6]) (by kernel_rfl) (by simp) ?_
          refine AllReadyI.cons rfl (fun K hK=>?_) ?_
          ·refine ins_app (w1:=w5) rfl (.tmp 67) (.tmp 70) 49 rfl 9 i0 (.string ByteArray.empty) 1 16 Tryz.underlying49 hi hz0 hz1 hz2 rfl (by decide) (.slice (some ⟨g0,0,none⟩) 0 0) 0 [] rfl hr kp ⟨g,0,none⟩ j cap NC1 rfl (uH HL1) (fun i u hu=>uH HLO _ kp i u hu) (uH HO1) (by unfold maxLen;omega) (by omega) ?_
           intro v1 wz2 hr2 kp2 hsame
           try simp only [zW]
           exact hK.out _ _ kp2 (.inr (.inr (.inr (.inr (.inl (⟨g0,v1,rfl,by kernel_rfl,rfl,owns_re hr2 (by omega) (List.nil_append _),kp2⟩))))))
          refine AllReadyI.cons rfl (fun K hK=>?_) ?_
          ·go_simp
           go_wp2_with fail
           exact hK.out _ _ (yA kp _) (.inr (.inr (.inr (.inl (⟨g0,wz.heap.size,rfl,rfl,rfl,hr.al _,ibox_new kp _,(Nat.ne_of_gt (by obtain ⟨q,q2,q3,q4,q5,q6⟩:=hr.open;cases q3;exact (World.ownsRow.lt q5 g0 rfl).2)),yA kp _⟩)))))
          exact AllReadyI.nil
         ·obtain ⟨g0,gb,hn,rfl,rfl,hr,hbx,hne,kp⟩:=h
          obtain rfl:n=3:=by omega
          refine ready_step (rs:=[4]) (by kernel_rfl) (by simp) ?_
          refine AllReadyI.cons rfl (fun K hK=>?_) ?_
          ·refine ins_app (w1:=w5) rfl (.tmp 67) (.tmp 70) 49 rfl 9 i0 (.string ByteArray.empty) 1 16 Tryz.underlying49 hi hz0 hz1 hz2 rfl (by decide) (.slice (some ⟨g0,0,none⟩) 0 0) 0 [] rfl hr kp ⟨g,0,none⟩ j cap NC1 rfl (uH HL1) (fun i u hu=>uH HLO _ kp i u hu) (uH HO1) (by unfold maxLen;omega) (by omega) ?_
           intro v1 wz2 hr2 kp2 hsame
           try simp only [zW]
           exact hK.out _ _ kp2 (.inr (.inr (.inr (.inr (.inr (.inl (⟨g0,v1,gb,rfl,by kernel_rfl,rfl,owns_re hr2 (by omega) (List.nil_append _),hbx.same (hsame gb hbx.lt (by simp [Value.ownBlock];omega)),kp2⟩)))))))
          exact AllReadyI.nil
         ·obtain ⟨g0,v1,hn,rfl,rfl,hr,kp⟩:=h
          obtain rfl:n=3:=by omega
          refine ready_step (rs:=[6]) (by kernel_rfl) (by simp) ?_
          refine AllReadyI.cons rfl (fun K hK=>?_) ?_
          ·go_simp
           go_wp2_with fail
           exact hK.out _ _ (yA kp _) (.inr (.inr (.inr (.inr (.inr (.inl (⟨g0,v1,wz.heap.size,rfl,rfl,rfl,hr.al _,ibox_new kp _,yA kp _⟩)))))))
          exact AllReadyI.nil
         ·obtain ⟨g0,v1,gb,hn,rfl,rfl,hr,hbx,kp⟩:=h
          obtain rfl:n=2:=by omega
          refine ready_step (rs:=[7]) (by kernel_rfl) (by simp) ?_
          refine AllReadyI.cons rfl (fun K hK=>?_) ?_
          ·refine ins_app (w1:=w5) rfl (.tmp 71) (.tmp 73) 49 rfl 9 i0 (.string ByteArray.empty) 1 16 Tryz.underlying49 hi hz0 hz1 hz2 rfl (by decide) v1 j NC1 rfl hr kp ⟨gb,0,none⟩ 1 1 #[Value.string (bs nm)].toList rfl (by rfl) hbx.news (uH HOX) (by unfold maxLen;omega) (by omega) ?_
           intro v2 wz2 hr2 kp2 hsame
           try simp only [zW]
           exact hK.out _ _ kp2 (.inr (.inr (.inr (.inr (.inr (.inr (.inl (⟨g0,v1,gb,v2,rfl,by kernel_rfl,rfl,hr2,kp2⟩))))))))
          exact AllReadyI.nil
         ·obtain ⟨g0,v1,gb,v2,hn,rfl,rfl,hr,kp⟩:=h
          obtain rfl:n=1:=by omega
          refine ready_step (rs:=[11]) (by kernel_rfl) (by simp) ?_
          refine AllReadyI.cons rfl (fun K hK=>?_) ?_
          ·refine ins_app (w1:=w5) rfl (.tmp 74) (.tmp 77) 49 rfl 9 i0 (.string ByteArray.empty) 1 16 Tryz.underlying49 hi hz0 hz1 hz2 rfl (by decide) v2 (j+1) (NC1++#[Value.string (bs nm)].toList) rfl hr kp (hiA g cap j 1) (o.length - j) (cap - j) NC2 rfl (uH HL2) (fun i u hu=>uH HHI _ kp i u hu) (uH HO2) (by unfold maxLen;omega) (by omega) ?_
           intro v3 wz2 hr2 kp2 hsame
           try simp only [zW]
           exact hK.out _ _ kp2 (.inr (.inr (.inr (.inr (.inr (.inr (.inr (.inl (⟨g0,v1,gb,v2,v3,rfl,by kernel_rfl,rfl,hr2,kp2⟩)))))))))
          exact AllReadyI.nil
         ·obtain ⟨g0,v1,gb,v2,v3,hn,rfl,rfl,hr,kp⟩:=h
          obtain rfl:n=0:=by omega
          refine ready_step (rs:=[12]) (by kernel_rfl) (by simp) ?_
          refine AllReadyI.cons rfl (fun K hK=>?_) ?_
          ·go_simp
           go_wp2_with fail
           exact hK.out _ _ kp (.inr (.inr (.inr (.inr (.inr (.inr (.inr (.inr (⟨g0,v1,gb,v2,v3,rfl,rfl,rfl,hr,kp⟩)))))))))
          exact AllReadyI.nil
         ·obtain ⟨_,_,_,_,_,hn,_⟩:=h
          cases hn
  ·have hkk:k=ql:=by omega
   subst hkk
   have HE:=hide (uH HNE k (by have:=uH HLQ;omega))
   have hgg2:w.heap.size≤g:=by omega
   go_wp2
   go_ret
   refine ⟨_,rfl,?_,uH HB2⟩
   rw [←uH HE,←uH HO]
   exact ((uH HW).own).base hgg2
end
end Go.Proofs.YtokabeokclpljaaGreat
